/- Contracts and laws that the statement's proof stands on, one text behind the other. -/
import Derived.Test.YtblphilcmfabkaaGreatDoorAla4
import Derived.Laws.MakeOwn
import Derived.Maps.AppendAt
import Derived.Deep.RegionWith
import Derived.Deep.Cut
import Derived.Deep.DeepCutAuto

namespace Go.Proofs.YtblphilcmfabkaaGreatDoor
section
def runN (d : DeskN) : List DeedN → DeskN × Nat
 | [] => (d, 0)
 | x :: xs => let r := doN d x; let s := runN r.1 xs; (s.1, s.2 + if r.2 then 1 else 0)
theorem runN_append (d : DeskN) (xs ys : List DeedN) : runN d (xs ++ ys) = ((runN (runN d xs).1 ys).1, (runN d xs).2 + (runN (runN d xs).1 ys).2) := by
 induction xs generalizing d with
 | nil => simp [runN]
 | cons x xs ih => simp only [List.cons_append, runN, ih]; congr 1; omega
theorem runN_desk {d : DeskN} (xs : List DeedN) (h : deskN d = true) : deskN (runN d xs).1 = true := by
 induction xs generalizing d with
 | nil => exact h
 | cons x xs ih => exact ih (doN_desk x h)
def journalN : List DeedN → List UInt8
 | [] => []
 | x :: xs => deedT x ++ [10] ++ journalN xs
def notedN (l : List DeedN) : Bool := l.all fun x => decide (deedT x ≠ [])
def readJ (line : List UInt8) : List UInt8 → List DeedN × Nat
 | [] => ([], 0)
 | c :: cs => if c = 10 then (match readN line with
     | some x => ((x :: (readJ [] cs).1), (readJ [] cs).2 + line.length + 1)
     | none => ([], 0)) else readJ (line ++ [c]) cs
theorem readJ_text (line s : List UInt8) : journalN (readJ line s).1 = (line ++ s).take (readJ line s).2 := by
 induction s generalizing line with
 | nil => simp [readJ, journalN]
 | cons c cs ih =>
   unfold readJ
   split
   · rename_i hc
     subst hc
     cases h : readN line with
     | none => simp [journalN]
     | some x =>
       obtain ⟨h1, -⟩ := readN_some h
       simp only [journalN, h1, ih []]
       rw [show (readJ [] cs).2 + line.length + 1 = line.length + ((readJ [] cs).2 + 1) by omega, List.take_length_add_append]
       simp
   · rw [ih]; simp
theorem readJ_le (line s : List UInt8) : (readJ line s).2 ≤ line.length + s.length := by
 induction s generalizing line with
 | nil => simp [readJ]
 | cons c cs ih =>
   unfold readJ
   split
   · cases h : readN line with
     | none => simp
     | some x => have := ih []; simp at this ⊢; omega
   · have := ih (line ++ [c]); simp at this ⊢; omega
theorem readJ_noted (line s : List UInt8) : ∀ x ∈ (readJ line s).1, deedT x ≠ [] := by
 induction s generalizing line with
 | nil => simp [readJ]
 | cons c cs ih =>
   unfold readJ
   split
   · cases h : readN line with
     | none => simp
     | some x =>
       obtain ⟨h1, h2⟩ := readN_some h
       intro y hy
       rcases List.mem_cons.1 hy with rfl | hy
       · rw [h1]; exact h2
       · exact ih [] y hy
   · exact ih _
theorem readJ_prefix (line s : List UInt8) (k : Nat) : (readJ line (s.take k)).1 <+: (readJ line s).1 ∧ (readJ line (s.take k)).2 ≤ (readJ line s).2 := by
 induction s generalizing line k with
 | nil => simp
 | cons c cs ih =>
   cases k with
   | zero => simp [readJ]
   | succ k =>
     rw [List.take_succ_cons]
     unfold readJ
     split
     · cases h : readN line with
       | none => simp
       | some x => obtain ⟨h1, h2⟩ := ih [] k; exact ⟨List.cons_prefix_cons.2 ⟨rfl, h1⟩, by show _ + _ + 1 ≤ _ + _ + 1; omega⟩
     · exact ih _ k
end
section
open Go.RowKit
theorem deed_at {L : List DeedN} {i : Nat} (h : i < L.length) : ∃ x y z, L[i]? = some ⟨x, y, z⟩ := ⟨L[i].kind, L[i].a, L[i].b, by simp [h]⟩
end
section
open Go.RowKit
theorem run_make_three {P : Program} (t e : TypeId) (i : TypeInfo) (ht : P.underlying t = some (.slice e)) (hi : P.info? e = some i) (hz : i.zero = some (.agg #[.int .i64 0, .int .i64 0, .int .i64 0])) (hs : i.size = 3) (hb : i.bytes = 24) (n : Nat) (hn : n ≤ 1048600) (w : World) :
   (Instr.makeSlice t (.int .i64 (n : Int)) (.int .i64 (n : Int))).run P w = .ok (.slice (some ⟨w.heap.size, 0, none⟩) n n) (w.alloc (.cells (madeCells #[.int .i64 0, .int .i64 0, .int .i64 0] (n * 3)) e)) := by
 have hr := run_make (P := P) w t e i _ ht hi hz .i64 .i64 n n zO zO (by rw [hb]; omega) zO
 simp only [Int.toNat_natCast, hs] at hr
 exact hr
theorem made_at3 (n j : Nat) (h : j < n) : (madeCells #[.int .i64 0, .int .i64 0, .int .i64 0] n)[j]? = some (.int .i64 0) := by
 have h2 : j % 3 = 0 ∨ j % 3 = 1 ∨ j % 3 = 2 := by omega
 rcases h2 with h2 | h2 | h2 <;> simp [madeCells, h, h2]
end
section
open Go.RowKit
def DeedsDrawn (w : World) (R k : Nat) (e : Ending) (w' : World) : Prop :=
 ∃ (a : Option Addr) (c : Nat) (X : List DeedN), e = .returned (.slice a X.length c) ∧ IsDeeds w.heap.size w'.heap.size w' (.slice a X.length c) X ∧ X.length ≤ 5 ∧ Rd w' R (k + 31) ∧ w.grownBy w' (some R)
set_option maxRecDepth 100000 in
set_option maxHeartbeats 4000000 in
theorem l20Deeds_any (R k : Nat) (w : World) (h : Rd w R k) (hk : k ≤ 900000) :
   Calls Tryz.prog 48 #[.pointer (some ⟨R, 0, none⟩)] w (DeedsDrawn w R k) := by
 obtain ⟨i0, hi0, hz0, hzs1, hz2⟩ := info_parts3 info_deed
 have hRlt := h.lt
 have HMD := Lib.hid (show (w.alloc (.cells #[] 40)).ownsRow w.heap.size 40 3 (.slice (some ⟨w.heap.size, 0, none⟩) 0 0) 0 [] from World.ownsRow_made w #[] 0 (Nat.le_refl _) (by unfold maxLen; omega) rfl)
 go_enter Tryz.func48, Tryz.ntmps48
 go_wp2_with fail
 refine (pick_any R k 6 _ (h.alloc _) zO zO).mono ?_
 rintro e w1 ⟨v, rfl, va, vb, hR1, hh1⟩
 have hO1 := own_grows HMD.out hh1 hRlt
 have hg1 := gr_trans (gr_alloc (gr_refl w R) _) hh1
 obtain ⟨n, rfl⟩ : ∃ n : Nat, v = (n : Int) := ⟨v.toNat, by omega⟩
 have hn5 : n ≤ 5 := by omega
 clear hh1 va vb HMD
 go_wp2_with fail
 go_loopw [3, 4] (fun x3 x4 wr => ∃ (j : Nat) (X : List DeedN) (a3 : Option Addr) (c3 : Nat), x3 = .slice a3 X.length c3 ∧ x4 = .int .i64 j ∧ X.length + j = n ∧ wr.ownsRow w.heap.size 40 3 (.slice a3 X.length c3) X.length (deedCells X) ∧ Rd wr R (k + 1 + 6 * X.length) ∧ w.grownBy wr (some R)) (fun _ x4 _ => (intOf x4).toNat)
 case atStart => exact ⟨n, [], _, _, rfl, rfl, by simp, hO1, hR1, hg1⟩
 case round =>
   obtain ⟨j, X, a3, c3, rfl, rfl, hj, hO, hR, hg⟩ := hrel
   rcases Nat.eq_zero_or_pos j with rfl | hjp
   · have HO := Lib.hid hO
     clear hO hO1
     go_wp2
     go_ret
     exact ⟨a3, c3, X, rfl, IsDeeds.of_owns HO.out, by omega, hR.mono zO, hg⟩
   · have hj0 : (0 : Int) < (j : Int) := by omega
     have wj : IntKind.i64.wrap ((j : Int) - 1) = ((j - 1 : Nat) : Int) := by rw [IntKind.wrap_i64]; omega
     have HO := Lib.hid hO
     clear hO hO1
     go_wp2_with fail
     refine (l20Deed_any R (k + 1 + 6 * X.length) _ hR zO).mono ?_
     rintro e w2 ⟨x, y, z, rfl, hR2, hh2⟩
     have hO2 := own_grows HO.out hh2 hRlt
     have hg2 := gr_trans hg hh2
     have hz2' := hh2.size
     have hwz := hg.size
     clear hh2 HO
     go_wp2_with (at_builtin; refine wpList_append_deeds _ rfl _ _ 24 rfl w.heap.size 40 i0 _ 24 Tryz.underlying24 hi0 hz0 hzs1 hz2 rfl (.slice a3 X.length c3) X.length (deedCells X) rfl (hO2.alloc _) w2.heap.size (w2.heap.size + 1) _ [⟨x, y, z⟩] rfl (IsDeeds.new _ x y z _ _ rfl) (X.length + 1) rfl (deedCells (X ++ [⟨x, y, z⟩])) (deedCells_append _ _) (by unfold maxLen; omega) zO (by simp; omega) ?_)
     intro a7 c7 w7 hown7 hgrow7 hat7
     have hR7 : Rd w7 R (k + 1 + 6 * (X ++ [(⟨x, y, z⟩ : DeedN)]).length) := by
       have hb7 : Below w.heap.size (w2.alloc (.cells #[.int .i64 x, .int .i64 y, .int .i64 z] 40)) w7 := (Below.refl _ _).grown hgrow7 (by simp; omega) (fun g e => (hO2.lt g e).1)
       exact (rd_under (hR2.alloc _) hb7 hRlt).mono (by simp; omega)
     have hg7 : w.grownBy w7 (some R) := gr_own (gr_alloc hg2 _) hgrow7 (fun g e => (hO2.lt g e).1)
     have HO7 := Lib.hid hown7
     clear hown7 hgrow7 hat7 hO2 hR2 hg2
     go_wp2_with fail
     go_roundw
     case rel => exact ⟨j - 1, X ++ [⟨x, y, z⟩], a7, c7, by simp, rfl, by simp; omega, by simpa using HO7.out, hR7, hg7⟩
     case measure => simp [intOf]; omega
end
section
open Go.RowKit
theorem extract_small (s : ByteArray) (a b : Nat) : (s.extract a b).size ≤ s.size := by simp [ByteArray.size_extract]; omega
theorem six_texts (w : World) (t : TypeId) : ∀ i, i < 6 → ∃ x : ByteArray, (w.alloc (.cells #[.string ⟨#[]⟩, .string ⟨#[48]⟩, .string ⟨#[32]⟩, .string ⟨#[10]⟩, .string ⟨#[45]⟩, .string ⟨#[98, 97, 99, 107]⟩] t)).cell? ⟨w.heap.size, i, none⟩ = some (.string x) ∧ x.size ≤ 4 := by
 intro i hi
 rcases (show i = 0 ∨ i = 1 ∨ i = 2 ∨ i = 3 ∨ i = 4 ∨ i = 5 by omega) with rfl | rfl | rfl | rfl | rfl | rfl <;> exact ⟨_, World.cell?_alloc_mark _ _ _ _ _, by decide⟩
def spoilP (R k : Nat) (s : ByteArray) (j : Nat) (v : Value) (w : World) : Prop :=
 match j with
 | 0 => v = .string s
 | 1 => v = .int .i64 k
 | 2 => ∃ x, v = .string x ∧ x.size ≤ s.size
 | 3 => ∃ b, v = .slice (some ⟨b, 0, none⟩) 6 6 ∧ b ≠ R ∧ b < w.heap.size ∧ ∀ i, i < 6 → ∃ x : ByteArray, w.cell? ⟨b, i, none⟩ = some (.string x) ∧ x.size ≤ 4
 | 4 => v = .pointer (some ⟨R, 0, none⟩)
 | 5 => ∃ n : Int, v = .int .i64 n ∧ 0 ≤ n ∧ n ≤ 5
 | 6 => ∃ (b i : Nat) (x : ByteArray), v = .pointer (some ⟨b, i, none⟩) ∧ b ≠ R ∧ b < w.heap.size ∧ w.cell? ⟨b, i, none⟩ = some (.string x) ∧ x.size ≤ 4
 | 7 => ∃ x, v = .string x ∧ x.size ≤ 4
 | 8 => ∃ x, v = .string x ∧ x.size ≤ s.size + 4
 | 9 => v = .string s
 | 10 => v = .int .i64 k
 | 11 => v = .int .i64 ((k : Int) + 1)
 | 12 => ∃ x, v = .string x ∧ x.size ≤ s.size
 | _ => ∃ x, v = .string x ∧ x.size ≤ 2 * s.size + 4
theorem rd_drewE {w : World} {R k : Nat} (h : Rd w R k) : Rd w.drew R k := h
theorem spoilP_mono (R k : Nat) (s : ByteArray) (j : Nat) (v : Value) (w w' : World) (hg : w.grownBy w' (some R)) (h : spoilP R k s j v w) : spoilP R k s j v w' := by
 unfold spoilP at *
 split at h
 · exact h
 · exact h
 · exact h
 · obtain ⟨b, e, h1, h2, h3⟩ := h
   refine ⟨b, e, h1, Nat.lt_of_lt_of_le h2 hg.size, fun i hi => ?_⟩
   obtain ⟨x, hx, hs⟩ := h3 i hi
   exact ⟨x, ((gcell hg).1 b i h2 h1).trans hx, hs⟩
 · exact h
 · exact h
 · obtain ⟨b, i, x, e, h1, h2, h3, h4⟩ := h
   exact ⟨b, i, x, e, h1, Nat.lt_of_lt_of_le h2 hg.size, ((gcell hg).1 b i h2 h1).trans h3, h4⟩
 · exact h
 · exact h
 · exact h
 · exact h
 · exact h
 · exact h
 · exact h
def TextDrawn (w : World) (R k n : Nat) (e : Ending) (w' : World) : Prop := ∃ t : ByteArray, e = .returned (.string t) ∧ t.size ≤ n ∧ Rd w' R k ∧ w.grownBy w' (some R)
set_option linter.unusedSimpArgs false in
set_option maxRecDepth 100000 in
set_option maxHeartbeats 4000000 in
theorem l20Spoil_any (R m : Nat) (s : ByteArray) (w : World) (h : Rd w R m) (hm : m ≤ 900000) (hs : s.size ≤ 100000) : Calls Tryz.prog 42 #[.pointer (some ⟨R, 0, none⟩), .string s] w (TextDrawn w R (m + 2) (2 * s.size + 4)) := by
 have hen : ∀ (args : Array Value) (w : World), (callFunc 41 args).run Tryz.prog w = .ok (.enter 41 args) w := enters_of Tryz.func41 (by kernel_rfl) rfl
 rcases (show s.size = 0 ∨ 0 < s.size by omega) with h0 | h0
 · have h0i : ((s.size : Int)) = 0 := by omega
   have HR := Lib.hid h
   have H0 := Lib.hid h0
   clear h h0
   go_enter Tryz.func42, Tryz.ntmps42
   go_wp2
   go_ret
   exact ⟨_, rfl, by show (1 : Nat) ≤ _; omega, HR.out.mono zO, gr_refl _ _⟩
 · have h0i : ¬ ((s.size : Int)) = 0 := by omega
   go_enter Tryz.func42, Tryz.ntmps42
   go_wp2_with fail
   refine (pick_any R m (s.size : Int) _ h zO zO).mono ?_
   rintro e w2 ⟨v, rfl, va, vb, hR2, hh2⟩
   obtain ⟨k, rfl⟩ : ∃ k : Nat, v = (k : Int) := ⟨v.toNat, by omega⟩
   have hks : k < s.size := by omega
   have hksN : k ≤ s.size := by omega
   have hks : (k : Int) ≤ (s.size : Int) := by omega
   have hk0 : (0 : Int) ≤ (k : Int) := by omega
   have wk : IntKind.i64.wrap ((k : Int) + 1) = (k : Int) + 1 := by rw [IntKind.wrap_i64]; omega
   have hk1 : (0 : Int) ≤ (k : Int) + 1 := by omega
   have hk1s : (k : Int) + 1 ≤ (s.size : Int) := by omega
   have hk1n : ((k : Int) + 1).toNat = k + 1 := by omega
   have hk1N : k + 1 ≤ s.size := by omega
   clear va vb h h0 h0i
   go_wp2_with fail
   rename_i K hK
   refine wp_region_stores (PP := spoilP R k s) (Grow := fun a b => a.grownBy b (some R)) (G := fun l w' => w.grownBy w' (some R) ∧ Rd w' R (m + 1 + indD l 5)) (by kernel_rfl) (dis_of2 (by kernel_rfl)) (b_of (by kernel_rfl)) (back_of (by kernel_rfl)) (fun j u w1 w2 hg hp => spoilP_mono R k s j u w1 w2 hg hp) ⟨gr_drew hh2, rd_drewE (hR2.mono zO)⟩ ?step ?fin
   case step =>
     intro i o hi listed a w1 hS hG hall hl
     have hi15 : i < 15 := (Array.getElem?_eq_some_iff.1 hi).1
     rcases (show i = 0 ∨ i = 1 ∨ i = 2 ∨ i = 3 ∨ i = 4 ∨ i = 5 ∨ i = 6 ∨ i = 7 ∨ i = 8 ∨ i = 9 ∨ i = 10 ∨ i = 11 ∨ i = 12 ∨ i = 13 ∨ i = 14 by omega) with rfl | rfl | rfl | rfl | rfl | rfl | rfl | rfl | rfl | rfl | rfl | rfl | rfl | rfl | rfl
     · obtain rfl := Option.some.inj hi
       have e1 : a.eval (.tmp 1) = .string s := hS.2.2.1 1 (noDst_of (by kernel_rfl))
       refine op_value (v := .string s) (w' := w1) rfl rfl (by intro ev ht hc hf; rw [← ht] at e1; simp [execOp, hc, hf, e1, go_sem]) ⟨.inl ⟨_, 13, rfl, rfl, rfl⟩, gr_refl _ _, ⟨hG.1, by rw [indD_other zd]; exact hG.2⟩⟩
     · obtain rfl := Option.some.inj hi
       have e5 : a.eval (.tmp 5) = .int .i64 k := hS.2.2.1 5 (noDst_of (by kernel_rfl))
       refine op_value (v := .int .i64 k) (w' := w1) rfl rfl (by intro ev ht hc hf; rw [← ht] at e5; simp [execOp, hc, hf, e5, go_sem]) ⟨.inl ⟨_, 14, rfl, rfl, rfl⟩, gr_refl _ _, ⟨hG.1, by rw [indD_other zd]; exact hG.2⟩⟩
     · obtain rfl := Option.some.inj hi
       have P0 := hS.2.2.2 0 _ 13 rfl rfl (hall { on := 0, ground := .data } (by simp) rfl)
       replace P0 : a.eval (.tmp 13) = .string s := P0
       have P1 := hS.2.2.2 1 _ 14 rfl rfl (hall { on := 1, ground := .data } (by simp) rfl)
       replace P1 : a.eval (.tmp 14) = .int .i64 k := P1
       refine op_value (v := .string (s.extract 0 k)) (w' := w1) rfl rfl (by intro ev ht hc hf; rw [← ht] at P0 P1; simp [execOp, hc, hf, P0, P1, go_sem, hk0, hks, hksN]) ⟨.inl ⟨_, 15, rfl, rfl, ⟨_, rfl, extract_small _ _ _⟩⟩, gr_refl _ _, ⟨hG.1, by rw [indD_other zd]; exact hG.2⟩⟩
     · obtain rfl := Option.some.inj hi
       refine op_value (v := .slice (some ⟨w1.heap.size, 0, none⟩) 6 6) (w' := w1.alloc (.cells #[.string ⟨#[]⟩, .string ⟨#[48]⟩, .string ⟨#[32]⟩, .string ⟨#[10]⟩, .string ⟨#[45]⟩, .string ⟨#[98, 97, 99, 107]⟩] 9)) rfl rfl (by intro ev ht hc hf; simp [execOp, hc, hf, go_sem]; try go_simp) ⟨.inl ⟨_, 16, rfl, rfl, ⟨w1.heap.size, rfl, by have := hG.2.lt; omega, by simp, six_texts w1 _⟩⟩, gr_alloc (gr_refl _ _) _, gr_alloc hG.1 _, by rw [indD_other zd]; exact hG.2.alloc _⟩
     · obtain rfl := Option.some.inj hi
       have e0 : a.eval (.tmp 0) = .pointer (some ⟨R, 0, none⟩) := hS.2.2.1 0 (noDst_of (by kernel_rfl))
       refine op_value (v := .pointer (some ⟨R, 0, none⟩)) (w' := w1) rfl rfl (by intro ev ht hc hf; rw [← ht] at e0; simp [execOp, hc, hf, e0, go_sem]) ⟨.inl ⟨_, 17, rfl, rfl, rfl⟩, gr_refl _ _, ⟨hG.1, by rw [indD_other zd]; exact hG.2⟩⟩
     · obtain rfl := Option.some.inj hi
       have P4 := hS.2.2.2 4 _ 17 rfl rfl (hall { on := 4, ground := .data } (by simp) rfl)
       replace P4 : a.eval (.tmp 17) = .pointer (some ⟨R, 0, none⟩) := P4
       refine op_enter rfl rfl (f := 41) (args := #[.pointer (some ⟨R, 0, none⟩), .int .i64 6]) (w' := w1) (by intro ev ht hc hf; rw [← ht] at P4; simp [execOp, hc, hf, P4, go_sem, hen]) ?_
       refine (pick_any R (m + 1 + indD listed 5) 6 w1 hG.2 (by have := indD_le listed 5; omega) zO).mono ?_
       rintro e w2 ⟨v, rfl, va, vb, hR, hg⟩
       exact ⟨_, rfl, .inl ⟨_, 18, rfl, rfl, ⟨v, rfl, va, by show v ≤ (5 : Int); omega⟩⟩, hg, gr_trans hG.1 hg, by rw [indD_self hl]; exact hR⟩
     · obtain rfl := Option.some.inj hi
       have P3 := hS.2.2.2 3 _ 16 rfl rfl (hall { on := 3, ground := .data } (by simp) rfl)
       obtain ⟨b, eb, hbR, hbl, hbc⟩ := P3
       have P5 := hS.2.2.2 5 _ 18 rfl rfl (hall { on := 5, ground := .data } (by simp) rfl)
       obtain ⟨n5, e5, l5, h5⟩ := P5
       have hb6 : n5 < 6 := by omega
       obtain ⟨t, ht6, hts⟩ := hbc n5.toNat zO
       refine op_value (v := .pointer (some ⟨b, n5.toNat, none⟩)) (w' := w1) rfl rfl (by intro ev ht hc hf; rw [← ht] at eb e5; simp [execOp, hc, hf, eb, e5, go_sem, l5, hb6]) ⟨.inl ⟨_, 19, rfl, rfl, ⟨b, n5.toNat, t, rfl, hbR, hbl, ht6, hts⟩⟩, gr_refl _ _, ⟨hG.1, by rw [indD_other zd]; exact hG.2⟩⟩
     · obtain rfl := Option.some.inj hi
       have P6 := hS.2.2.2 6 _ 19 rfl rfl (hall { on := 6, ground := .data } (by simp) rfl)
       obtain ⟨b, i, t, eb, hbR, hbl, hbc, hts⟩ := P6
       refine op_value (v := .string t) (w' := w1) rfl rfl (by intro ev ht hc hf; rw [← ht] at eb; simp [execOp, hc, hf, eb, hbc, go_sem]) ⟨.inl ⟨_, 20, rfl, rfl, ⟨t, rfl, hts⟩⟩, gr_refl _ _, ⟨hG.1, by rw [indD_other zd]; exact hG.2⟩⟩
     · obtain rfl := Option.some.inj hi
       have P2 := hS.2.2.2 2 _ 15 rfl rfl (hall { on := 2, ground := .data } (by simp) rfl)
       obtain ⟨x, ex, hx⟩ := P2
       have P7 := hS.2.2.2 7 _ 20 rfl rfl (hall { on := 7, ground := .data } (by simp) rfl)
       obtain ⟨t, et, hts⟩ := P7
       have hcat : ¬ 9223372036854775807 < x.size + t.size := by omega
       refine op_value (v := .string (x ++ t)) (w' := w1) rfl rfl (by intro ev ht hc hf; rw [← ht] at ex et; simp [execOp, hc, hf, ex, et, go_sem, hcat]) ⟨.inl ⟨_, 21, rfl, rfl, ⟨_, rfl, by rw [ByteArray.size_append]; omega⟩⟩, gr_refl _ _, ⟨hG.1, by rw [indD_other zd]; exact hG.2⟩⟩
     · obtain rfl := Option.some.inj hi
       have e1 : a.eval (.tmp 1) = .string s := hS.2.2.1 1 (noDst_of (by kernel_rfl))
       refine op_value (v := .string s) (w' := w1) rfl rfl (by intro ev ht hc hf; rw [← ht] at e1; simp [execOp, hc, hf, e1, go_sem]) ⟨.inl ⟨_, 22, rfl, rfl, rfl⟩, gr_refl _ _, ⟨hG.1, by rw [indD_other zd]; exact hG.2⟩⟩
     · obtain rfl := Option.some.inj hi
       have e5 : a.eval (.tmp 5) = .int .i64 k := hS.2.2.1 5 (noDst_of (by kernel_rfl))
       refine op_value (v := .int .i64 k) (w' := w1) rfl rfl (by intro ev ht hc hf; rw [← ht] at e5; simp [execOp, hc, hf, e5, go_sem]) ⟨.inl ⟨_, 23, rfl, rfl, rfl⟩, gr_refl _ _, ⟨hG.1, by rw [indD_other zd]; exact hG.2⟩⟩
     · obtain rfl := Option.some.inj hi
       have P10 := hS.2.2.2 10 _ 23 rfl rfl (hall { on := 10, ground := .data } (by simp) rfl)
       replace P10 : a.eval (.tmp 23) = .int .i64 k := P10
       refine op_value (v := .int .i64 ((k : Int) + 1)) (w' := w1) rfl rfl (by intro ev ht hc hf; rw [← ht] at P10; simp [execOp, hc, hf, P10, go_sem, wk]) ⟨.inl ⟨_, 24, rfl, rfl, rfl⟩, gr_refl _ _, ⟨hG.1, by rw [indD_other zd]; exact hG.2⟩⟩
     · obtain rfl := Option.some.inj hi
       have P9 := hS.2.2.2 9 _ 22 rfl rfl (hall { on := 9, ground := .data } (by simp) rfl)
       replace P9 : a.eval (.tmp 22) = .string s := P9
       have P11 := hS.2.2.2 11 _ 24 rfl rfl (hall { on := 11, ground := .data } (by simp) rfl)
       replace P11 : a.eval (.tmp 24) = .int .i64 ((k : Int) + 1) := P11
       refine op_value (v := .string (s.extract (k + 1) s.size)) (w' := w1) rfl rfl (by intro ev ht hc hf; rw [← ht] at P9 P11; simp [execOp, hc, hf, P9, P11, go_sem, hk1, hk1s, hk1n, hk1N]) ⟨.inl ⟨_, 25, rfl, rfl, ⟨_, rfl, extract_small _ _ _⟩⟩, gr_refl _ _, ⟨hG.1, by rw [indD_other zd]; exact hG.2⟩⟩
     · obtain rfl := Option.some.inj hi
       have P8 := hS.2.2.2 8 _ 21 rfl rfl (hall { on := 8, ground := .data } (by simp) rfl)
       obtain ⟨y, ey, hy⟩ := P8
       have P12 := hS.2.2.2 12 _ 25 rfl rfl (hall { on := 12, ground := .data } (by simp) rfl)
       obtain ⟨x, ex, hx⟩ := P12
       have hcat : ¬ 9223372036854775807 < y.size + x.size := by omega
       refine op_value (v := .string (y ++ x)) (w' := w1) rfl rfl (by intro ev ht hc hf; rw [← ht] at ey ex; simp [execOp, hc, hf, ey, ex, go_sem, hcat]) ⟨.inl ⟨_, 26, rfl, rfl, ⟨_, rfl, by rw [ByteArray.size_append]; omega⟩⟩, gr_refl _ _, ⟨hG.1, by rw [indD_other zd]; exact hG.2⟩⟩
     · obtain rfl := Option.some.inj hi
       have P13 := hS.2.2.2 13 _ 26 rfl rfl (hall { on := 13, ground := .data } (by simp) rfl)
       obtain ⟨x, ex, hx⟩ := P13
       refine op_value (v := .string x) (w' := w1) rfl rfl (by intro ev ht hc hf; rw [← ht] at ex; simp [execOp, hc, hf, ex, go_sem]) ⟨.inl ⟨_, 4, rfl, rfl, ⟨x, rfl, hx⟩⟩, gr_refl _ _, ⟨hG.1, by rw [indD_other zd]; exact hG.2⟩⟩
   case fin =>
     intro listed a w1 hall hS hG
     obtain ⟨x, e4, hx⟩ := hS.2.2.2 14 _ 4 rfl rfl (hall 14 zd)
     have e4' : a.tmps.getD 4 undef = .string x := e4
     have hd : a.defers = [] := hS.1
     refine hK _ _ ?_
     clear hK hS hall
     go_wp2_with fail
     refine bodyPost_ret (v := .string x) ((results_tmp Tryz.results42 _ _ _).trans (by rw [e4'])) hd ⟨x, rfl, hx, hG.2.mono (by have := indD_le listed 5; omega), hG.1⟩
def TextSeen (w : World) (e : Ending) (w' : World) : Prop := ∃ t : ByteArray, e = .returned (.string t) ∧ t.size ≤ 1000 ∧ Below w.heap.size w w'
theorem deedT_len (x : DeedN) : (deedT x).length ≤ 12 := by
 unfold deedT
 have h1 := digN_len x.a
 have h2 := digN_len x.b
 split
 · split
   · simp only [List.length_append, List.length_cons, List.length_nil]; omega
   · simp
 · split
   · split
     · simp
     · split
       · simp
       · split
         · simp
         · split <;> simp
   · simp
end
section
open Go.RowKit
def DeskDeedsSeen (w : World) (e : Ending) (w' : World) : Prop :=
 ∃ (p q : Int) (a : Option Addr) (c : Nat) (L : List (Int × Int)) (b : Option Addr) (d : Nat) (X : List DeedN), e = .returned (.tuple #[.agg #[.int .i64 p, .int .i64 q, .slice a L.length c], .slice b X.length d]) ∧ IsPairs w.heap.size w'.heap.size w' (.slice a L.length c) L ∧ L.length ≤ 6 ∧ IsDeeds w.heap.size w'.heap.size w' (.slice b X.length d) X ∧ X.length ≤ 41 ∧ Below w.heap.size w w'
end
section
open Go.RowKit
theorem c3_alloc {w : World} {b : Nat} {u0 u1 u2 : Value} (h : C3 w b u0 u1 u2) (o : Obj) : C3 (w.alloc o) b u0 u1 u2 := by
 have hb := h.lt
 obtain ⟨⟨h0, h1, h2⟩, f0, f1, f2⟩ := h
 have hB := (Below.refl w.heap.size w).alloc (Nat.le_refl _) o
 exact ⟨⟨(hB.cell (p := ⟨b, 0, none⟩) hb).trans h0, (hB.cell (p := ⟨b, 1, none⟩) hb).trans h1, (hB.cell (p := ⟨b, 2, none⟩) hb).trans h2⟩, (hB.frozen (p := ⟨b, 0, none⟩) hb).trans f0, (hB.frozen (p := ⟨b, 1, none⟩) hb).trans f1, (hB.frozen (p := ⟨b, 2, none⟩) hb).trans f2⟩
def GrowF (B : Nat) (W W' : World) : Prop := W.heap.size ≤ W'.heap.size ∧ ∀ g, B ≤ g → g < W.heap.size → W'.heap[g]? = W.heap[g]?
theorem growF_refl (B : Nat) (W : World) : GrowF B W W := ⟨Nat.le_refl _, fun _ _ _ => rfl⟩
theorem growF_of {B R : Nat} {W W' : World} (hg : W.grownBy W' (some R)) (hR : R < B) : GrowF B W W' := ⟨hg.size, fun g h1 h2 => hg.block g h2 (fun e => by injection e; omega)⟩
theorem growF_alloc (B : Nat) (W : World) (o : Obj) : GrowF B W (W.alloc o) := ⟨by simp, fun g _ h => ((Below.refl W.heap.size W).alloc (Nat.le_refl _) o).block g h⟩
theorem growF_set3 {B b : Nat} (W : World) (hb : b < B) (v0 v1 v2 : Value) : GrowF B W (set3 W b v0 v1 v2) :=
 ⟨by rw [set3_size]; exact Nat.le_refl _, fun g h1 _ => by unfold set3; rw [Below.heap_setCell _ _ _ _ (by show g ≠ b; omega), Below.heap_setCell _ _ _ _ (by show g ≠ b; omega), Below.heap_setCell _ _ _ _ (by show g ≠ b; omega)]⟩
def DeedsAt (B n : Nat) (v : Value) (W : World) : Prop := ∃ (b : Option Addr) (d : Nat) (X : List DeedN) (C : Nat), v = .slice b X.length d ∧ IsDeeds B C W (.slice b X.length d) X ∧ X.length ≤ n
theorem DeedsAt.grow {B n : Nat} {v : Value} {W W' : World} (h : DeedsAt B n v W) (hg : GrowF B W W') : DeedsAt B n v W' := by
 obtain ⟨b, d, X, C, e, hX, hn⟩ := h
 have hC : C ≤ W.heap.size := by obtain ⟨_, _, _, hC, _⟩ := id hX; exact hC
 exact ⟨b, d, X, C, e, hX.far hg.1 (fun g h1 h2 => hg.2 g h1 zO), hn⟩
theorem deeds_made (W : World) (B n : Nat) (t : TypeId) (hB : B ≤ W.heap.size) : DeedsAt B n (.slice (some ⟨W.heap.size, 0, none⟩) n n) (W.alloc (.cells (madeCells #[.int .i64 0, .int .i64 0, .int .i64 0] (n * 3)) t)) := by
 have hX : (List.replicate n (⟨0, 0, 0⟩ : DeedN)).length = n := List.length_replicate
 refine ⟨some ⟨W.heap.size, 0, none⟩, n, List.replicate n ⟨0, 0, 0⟩, W.heap.size + 1, by rw [hX], ?_, by rw [hX]; exact Nat.le_refl _⟩
 refine ⟨_, n, rfl, by simp, .inr ⟨W.heap.size, 0, rfl, hB, ⟨by omega, by rw [hX]; exact Nat.le_refl _⟩, fun i p hi => ?_, fun i hi => ?_⟩⟩
 · obtain ⟨hin, rfl⟩ := List.getElem?_eq_some_iff.1 hi
   rw [hX] at hin
   rw [List.getElem_replicate, Nat.zero_add]
   exact ⟨(World.cell?_alloc_mark _ _ _ _ _).trans (made_at3 _ _ zO), (World.cell?_alloc_mark _ _ _ _ _).trans (made_at3 _ _ zO), (World.cell?_alloc_mark _ _ _ _ _).trans (made_at3 _ _ zO)⟩
 · unfold World.frozen?; rw [heap_alloc_new]; simp
def runP4 (B : Nat) (p q : Int) (a2 : Option Addr) (c2 : Nat) (L : List (Int × Int)) (j : Nat) (v : Value) (W : World) : Prop :=
 match j with
 | 0 => v = .agg #[.int .i64 p, .int .i64 q, .slice a2 L.length c2]
 | 2 => True
 | _ => DeedsAt B 41 v W
theorem runP4_mono (B : Nat) (p q : Int) (a2 : Option Addr) (c2 : Nat) (L : List (Int × Int)) (j : Nat) (v : Value) (W W' : World) (hg : GrowF B W W') (h : runP4 B p q a2 c2 L j v W) : runP4 B p q a2 c2 L j v W' := by
 unfold runP4 at *
 split at h
 · exact h
 · exact h
 · exact h.grow hg
def runP5 (B : Nat) (p q : Int) (a2 : Option Addr) (c2 : Nat) (L : List (Int × Int)) (R j : Nat) (v : Value) (W : World) : Prop :=
 match j with
 | 0 => v = .agg #[.int .i64 p, .int .i64 q, .slice a2 L.length c2]
 | 1 => v = .pointer (some ⟨R, 0, none⟩)
 | 3 => True
 | _ => DeedsAt B 41 v W
theorem runP5_mono (B : Nat) (p q : Int) (a2 : Option Addr) (c2 : Nat) (L : List (Int × Int)) (R j : Nat) (v : Value) (W W' : World) (hg : GrowF B W W') (h : runP5 B p q a2 c2 L R j v W) : runP5 B p q a2 c2 L R j v W' := by
 unfold runP5 at *
 split at h
 · exact h
 · exact h
 · exact h
 · exact h.grow hg
theorem arr17 (t : Array Value) (h : t.size = 17) : t = #[t.getD 0 undef, t.getD 1 undef, t.getD 2 undef, t.getD 3 undef, t.getD 4 undef, t.getD 5 undef, t.getD 6 undef, t.getD 7 undef, t.getD 8 undef, t.getD 9 undef, t.getD 10 undef, t.getD 11 undef, t.getD 12 undef, t.getD 13 undef, t.getD 14 undef, t.getD 15 undef, t.getD 16 undef] := by
 apply Array.ext
 · simpa using h
 · intro i h1 h2
   have h3 : i < 17 := by omega
   rcases (show i = 0 ∨ i = 1 ∨ i = 2 ∨ i = 3 ∨ i = 4 ∨ i = 5 ∨ i = 6 ∨ i = 7 ∨ i = 8 ∨ i = 9 ∨ i = 10 ∨ i = 11 ∨ i = 12 ∨ i = 13 ∨ i = 14 ∨ i = 15 ∨ i = 16 by omega) with rfl | rfl | rfl | rfl | rfl | rfl | rfl | rfl | rfl | rfl | rfl | rfl | rfl | rfl | rfl | rfl | rfl <;> simp [Array.getD, h]
theorem act17 (t : Array Value) (h : t.size = 17) (v2 v3 : Value) (h2 : t.getD 2 undef = v2) (h3 : t.getD 3 undef = v3) : ∃ u0 u1 u4 u5 u6 u7 u8 u9 u10 u11 u12 u13 u14 u15 u16 : Value, t = #[u0, u1, v2, v3, u4, u5, u6, u7, u8, u9, u10, u11, u12, u13, u14, u15, u16] :=
 ⟨_, _, _, _, _, _, _, _, _, _, _, _, _, _, _, by rw [← h2, ← h3]; exact arr17 t h⟩
set_option linter.unusedSimpArgs false in
set_option maxRecDepth 100000 in
set_option maxHeartbeats 8000000 in
theorem drawDeskRun_any (w : World) (a : Option Addr) (len cap : Nat) (zs : List Int) (h : IsRow w a len cap zs) :
   Calls Tryz.prog 12 #[.slice a len cap] w (DeskDeedsSeen w) := by
 have hen : ∀ (args : Array Value) (w : World), (callFunc 48 args).run Tryz.prog w = .ok (.enter 48 args) w := enters_of Tryz.func48 (by kernel_rfl) rfl
 obtain ⟨i0, hi0, hz0, hzs1, hz2'⟩ := info_parts3 info_deed
 have hmk := fun n hn W => run_make_three (P := Tryz.prog) 24 40 i0 Tryz.underlying24 hi0 hz0 hzs1 hz2' n hn W
 have HMK := Lib.hid hmk
 clear hmk hi0 hz0 hzs1 hz2'
 have HEN := Lib.hid hen
 clear hen
 go_enter Tryz.func12, Tryz.ntmps12
 go_wp2_with fail
 refine (open_any _ _ _ _ zs (h.below ((Below.refl _ _).alloc (Nat.le_refl _) _))).mono ?_
 rintro e w1 ⟨rfl, hR1, hh1, hzR1⟩
 try simp only [World.size_alloc] at hzR1
 try simp only [World.size_alloc] at hR1
 obtain ⟨hc1, hf1⟩ := bcell hh1
 have hz1 := hh1.size
 try simp only [World.size_alloc] at hz1
 have hz1_0 : w.heap.size < w1.heap.size := by omega
 have kb1_0_0 : w1.cell? ⟨w.heap.size, 0, none⟩ = some (.int .i64 0) := by go_simp
 have kf1_0_0 : w1.frozen? ⟨w.heap.size, 0, none⟩ = false := by go_simp
 have kb1_0_1 : w1.cell? ⟨w.heap.size, 1, none⟩ = some (.int .i64 0) := by go_simp
 have kf1_0_1 : w1.frozen? ⟨w.heap.size, 1, none⟩ = false := by go_simp
 have kb1_0_2 : w1.cell? ⟨w.heap.size, 2, none⟩ = some (.slice none 0 0) := by go_simp
 have kf1_0_2 : w1.frozen? ⟨w.heap.size, 2, none⟩ = false := by go_simp
 clear hc1 hf1
 go_wp2_with fail
 refine (l20Desk_any (w.heap.size + 1) 0 12 _ hR1 zO zO).mono ?_
 rintro e w2 ⟨p, q, a2, c2, L, rfl, hI2, hL2, hR2, hh2⟩
 obtain ⟨hc2, hf2⟩ := gcell hh2
 have hz2 := hh2.size
 try simp only [World.size_alloc] at hz2
 have hz2_0 : w.heap.size < w2.heap.size := by omega
 have hn2_0 : ¬ w.heap.size = (w.heap.size + 1) := by omega
 have kb2_0_0 : w2.cell? ⟨w.heap.size, 0, none⟩ = some (.int .i64 0) := by go_simp
 have kf2_0_0 : w2.frozen? ⟨w.heap.size, 0, none⟩ = false := by go_simp
 have kb2_0_1 : w2.cell? ⟨w.heap.size, 1, none⟩ = some (.int .i64 0) := by go_simp
 have kf2_0_1 : w2.frozen? ⟨w.heap.size, 1, none⟩ = false := by go_simp
 have kb2_0_2 : w2.cell? ⟨w.heap.size, 2, none⟩ = some (.slice none 0 0) := by go_simp
 have kf2_0_2 : w2.frozen? ⟨w.heap.size, 2, none⟩ = false := by go_simp
 clear hc2 hf2
 have hRB : w.heap.size + 1 < w1.heap.size := by omega
 have hTA : w2.heap.size ≠ w.heap.size := by omega
 have hTR : w2.heap.size ≠ w.heap.size + 1 := by omega
 have kc3 : C3 (w2.alloc (.cells #[.int .i64 p, .int .i64 q, .slice a2 L.length c2] 32)) w2.heap.size (.int .i64 p) (.int .i64 q) (.slice a2 L.length c2) := ⟨⟨by go_simp, by go_simp, by go_simp⟩, by go_simp, by go_simp, by go_simp⟩
 have kd3 : C3 (w2.alloc (.cells #[.int .i64 p, .int .i64 q, .slice a2 L.length c2] 32)) w.heap.size (.int .i64 0) (.int .i64 0) (.slice none 0 0) := c3_alloc ⟨⟨by go_simp, by go_simp, by go_simp⟩, by go_simp, by go_simp, by go_simp⟩ _
 have hB3 : Below w.heap.size w (w2.alloc (.cells #[.int .i64 p, .int .i64 q, .slice a2 L.length c2] 32)) := by exact zb
 go_wp2_with fail
 refine (odd_any (w.heap.size + 1) (0 + 40) 30 _ (hR2.alloc _) zO zO).mono ?_
 rintro e w4 ⟨bb, rfl, hR4, hh4⟩
 have hB4 : Below w.heap.size w w4 := hB3.grown hh4 hB3.size (fun k e => by cases e; omega)
 have hI4 := pairs_grows (hI2.allocd (.cells #[.int .i64 p, .int .i64 q, .slice a2 L.length c2] 32)) hh4 hRB
 have kc4 := kc3.grow hh4 hTR
 have kd4 := kd3.grow hh4 zO
 have hz4 := hh4.size
 simp at hz4
 have hmk := HMK.out
 have hen := HEN.out
 clear hB3 hh4 kc3 kd3 hI2 hR2 hh2 hh1 hR1 HMK HEN
 cases bb with
 | true =>
   go_wp2_with fail
   rename_i K hK
   refine wp_region_stores (PP := runP4 w1.heap.size p q a2 c2 L) (Grow := GrowF w1.heap.size) (G := fun l W => BackG w 9 2 w1.heap.size w2.heap.size (w.heap.size + 1) w2.heap.size w.heap.size 41 31 p q a2 c2 L l W) (by kernel_rfl) (dis_of2 (by kernel_rfl)) (b_of (by kernel_rfl)) (back_of (by kernel_rfl)) (fun j u W1 W2 hg hp => runP4_mono w1.heap.size p q a2 c2 L j u W1 W2 hg hp) ⟨Below.drew hB4, rd_drewD (hR4.mono zO), hI4.drew, kc4, 0, 0, none, 0, 0, kd4, fun e => by simp [Array.getD_eq_getD_getElem?, Array.getElem?_replicate] at e⟩ ?step ?fin
   case step =>
     intro i o hi listed a w5 hS hG hall hl
     have hC5 : w1.heap.size ≤ w5.heap.size := by
       obtain ⟨_, _, hI, hT, _⟩ := id hG
       have := hT.lt
       omega
     have hi4 : i < 4 := (Array.getElem?_eq_some_iff.1 hi).1
     rcases (show i = 0 ∨ i = 1 ∨ i = 2 ∨ i = 3 by omega) with rfl | rfl | rfl | rfl
     · obtain rfl := Option.some.inj hi
       have e5 : a.eval (.tmp 5) = .pointer (some ⟨w2.heap.size, 0, none⟩) := hS.2.2.1 5 (noDst_of (by kernel_rfl))
       obtain ⟨⟨c0, c1, c2'⟩, _⟩ := hG.2.2.2.1
       refine op_value (v := .agg #[.int .i64 p, .int .i64 q, .slice a2 L.length c2]) (w' := w5) rfl rfl (by intro ev ht hc hf; rw [← ht] at e5; simp [execOp, hc, hf, e5, go_sem, c0, c1, c2']; try go_simp) ⟨.inl ⟨_, 12, rfl, rfl, rfl⟩, growF_refl _ _, hG.same zd zd⟩
     · obtain rfl := Option.some.inj hi
       have hm := hmk 41 zO w5
       rw [show ((41 : Nat) : Int) = 41 from rfl] at hm
       refine op_value (v := .slice (some ⟨w5.heap.size, 0, none⟩) 41 41) (w' := w5.alloc (.cells (madeCells #[.int .i64 0, .int .i64 0, .int .i64 0] (41 * 3)) 40)) rfl rfl (by intro ev ht hc hf; simp [execOp, ht, hc, hf, hm, go_sem]) ⟨.inl ⟨_, 13, rfl, rfl, deeds_made w5 _ 41 _ hC5⟩, growF_alloc _ _ _, ?_⟩
       obtain ⟨hb, hr, hI, ht, x, y, a6, n6, c6, hA, hl'⟩ := hG
       exact ⟨hb.alloc hb.size _, by rw [indD_other zd]; exact hr.alloc _, hI.allocd _, c3_alloc ht _, x, y, a6, n6, c6, c3_alloc hA _, fun e => hl' (by rwa [getD_set_other _ zd] at e)⟩
     · obtain rfl := Option.some.inj hi
       have P0 := hS.2.2.2 0 _ 12 rfl rfl (hall { on := 0, ground := .data } (by simp) rfl)
       replace P0 : a.eval (.tmp 12) = .agg #[.int .i64 p, .int .i64 q, .slice a2 L.length c2] := P0
       have e2 : a.eval (.tmp 2) = .pointer (some ⟨w.heap.size, 0, none⟩) := hS.2.2.1 2 (noDst_of (by kernel_rfl))
       obtain ⟨_, _, _, _, x, y, a6, n6, c6, hA, _⟩ := id hG
       obtain ⟨⟨c0, c1, c2'⟩, f0, f1, f2⟩ := id hA
       refine op_store (w' := set3 w5 w.heap.size (.int .i64 p) (.int .i64 q) (.slice a2 L.length c2)) rfl rfl rfl (by intro ev ht hc hf; rw [← ht] at P0 e2; unfold set3; simp [execOp, hc, hf, P0, e2, go_sem, c0, c1, c2', f0, f1, f2]; try go_simp) ⟨.inr ⟨rfl, rfl⟩, growF_set3 _ zO _ _ _, hG.desk zd zO (Nat.le_refl _) hTA zO⟩
     · obtain rfl := Option.some.inj hi
       have P2 := hS.2.2.2 1 _ 13 rfl rfl (hall { on := 1, ground := .data } (by simp) rfl)
       obtain ⟨b6, d6, X, C6, e6, hX, hn⟩ := id P2
       refine op_value (v := .slice b6 X.length d6) (w' := w5) rfl rfl (by intro ev ht hc hf; rw [← ht] at e6; simp [execOp, hc, hf, e6, go_sem]) ⟨.inl ⟨_, 3, rfl, rfl, ⟨b6, d6, X, C6, rfl, hX, hn⟩⟩, growF_refl _ _, hG.same zd zd⟩
   case fin =>
     intro listed a w5 hall hS hG
     have e2 : a.eval (.tmp 2) = .pointer (some ⟨w.heap.size, 0, none⟩) := hS.2.2.1 2 (noDst_of (by kernel_rfl))
     obtain ⟨b6, d6, X, C6, e3, hX, hX41⟩ := hS.2.2.2 3 _ 3 rfl rfl (hall 3 zd)
     have hd : a.defers = [] := hS.1
     have hsz : a.tmps.size = 17 := hS.2.1
     obtain ⟨hB, _, hI, _, x, y, a6, n6, c6, hA, hl3⟩ := hG
     obtain ⟨rfl, rfl, hsl⟩ := hl3 (hall 2 zd)
     rw [hsl] at hA
     have hC : w2.heap.size ≤ w5.heap.size := by obtain ⟨_, _, _, hC, _⟩ := id hI; exact hC
     have hC6 : C6 ≤ w5.heap.size := by obtain ⟨_, _, _, hC, _⟩ := id hX; exact hC
     obtain ⟨t, d⟩ := a
     clear hS hall hsl hl3
     dsimp only at hd hsz
     subst hd
     obtain ⟨u0, u1, u4, u5, u6, u7, u8, u9, u10, u11, u12, u13, u14, u15, u16, rfl⟩ := act17 t hsz _ _ e2 e3
     clear e2 e3 hsz hen
     refine hK _ _ ?_
     clear hK K
     obtain ⟨⟨c0, c1, c2'⟩, f0, f1, f2⟩ := hA
     go_wp2_with fail
     refine bodyPost_ret (v := .tuple #[.agg #[.int .i64 x, .int .i64 y, .slice a2 L.length c2], .slice b6 X.length d6]) (by simp [results, Tryz.results12, go_sem]; go_simp) rfl ⟨x, y, a2, c2, L, b6, d6, X, rfl, hI.mono zO hC (Nat.le_refl _), hL2, hX.mono zO hC6 (Nat.le_refl _), hX41, hB⟩
 | false =>
   go_wp2_with fail
   rename_i K hK
   refine wp_region_stores (PP := runP5 w1.heap.size p q a2 c2 L (w.heap.size + 1)) (Grow := GrowF w1.heap.size) (G := fun l W => BackG w 2 3 w1.heap.size w2.heap.size (w.heap.size + 1) w2.heap.size w.heap.size 41 31 p q a2 c2 L l W) (by kernel_rfl) (dis_of2 (by kernel_rfl)) (b_of (by kernel_rfl)) (back_of (by kernel_rfl)) (fun j u W1 W2 hg hp => runP5_mono w1.heap.size p q a2 c2 L (w.heap.size + 1) j u W1 W2 hg hp) ⟨Below.drew hB4, rd_drewD (hR4.mono zO), hI4.drew, kc4, 0, 0, none, 0, 0, kd4, fun e => by simp [Array.getD_eq_getD_getElem?, Array.getElem?_replicate] at e⟩ ?step ?fin
   case step =>
     intro i o hi listed a w5 hS hG hall hl
     have hC5 : w1.heap.size ≤ w5.heap.size := by
       obtain ⟨_, _, hI, hT, _⟩ := id hG
       have := hT.lt
       omega
     have hi5 : i < 5 := (Array.getElem?_eq_some_iff.1 hi).1
     rcases (show i = 0 ∨ i = 1 ∨ i = 2 ∨ i = 3 ∨ i = 4 by omega) with rfl | rfl | rfl | rfl | rfl
     · obtain rfl := Option.some.inj hi
       have e5 : a.eval (.tmp 5) = .pointer (some ⟨w2.heap.size, 0, none⟩) := hS.2.2.1 5 (noDst_of (by kernel_rfl))
       obtain ⟨⟨c0, c1, c2'⟩, _⟩ := hG.2.2.2.1
       refine op_value (v := .agg #[.int .i64 p, .int .i64 q, .slice a2 L.length c2]) (w' := w5) rfl rfl (by intro ev ht hc hf; rw [← ht] at e5; simp [execOp, hc, hf, e5, go_sem, c0, c1, c2']; try go_simp) ⟨.inl ⟨_, 14, rfl, rfl, rfl⟩, growF_refl _ _, hG.same zd zd⟩
     · obtain rfl := Option.some.inj hi
       have e4 : a.eval (.tmp 4) = .pointer (some ⟨(w.heap.size + 1), 0, none⟩) := hS.2.2.1 4 (noDst_of (by kernel_rfl))
       refine op_value (v := .pointer (some ⟨(w.heap.size + 1), 0, none⟩)) (w' := w5) rfl rfl (by intro ev ht hc hf; rw [← ht] at e4; simp [execOp, hc, hf, e4, go_sem]) ⟨.inl ⟨_, 15, rfl, rfl, rfl⟩, growF_refl _ _, hG.same zd zd⟩
     · obtain rfl := Option.some.inj hi
       have P1 := hS.2.2.2 1 _ 15 rfl rfl (hall { on := 1, ground := .data } (by simp) rfl)
       replace P1 : a.eval (.tmp 15) = .pointer (some ⟨(w.heap.size + 1), 0, none⟩) := P1
       refine op_enter rfl rfl (f := 48) (args := #[.pointer (some ⟨(w.heap.size + 1), 0, none⟩)]) (w' := w5) (by intro ev ht hc hf; rw [← ht] at P1; simp [execOp, hc, hf, P1, go_sem, hen]) ?_
       refine (l20Deeds_any (w.heap.size + 1) (41 + 31 * indD listed 2) w5 hG.2.1 (by have := indD_le listed 2; omega)).mono ?_
       rintro e w6 ⟨b6, d6, X, rfl, hX, hn, hR, hg⟩
       exact ⟨_, rfl, .inl ⟨_, 16, rfl, rfl, ⟨b6, d6, X, w6.heap.size, rfl, hX.mono hC5 (Nat.le_refl _) (Nat.le_refl _), by omega⟩⟩, growF_of hg hRB, hG.call hl zd hR hg hRB zO hTR zO⟩
     · obtain rfl := Option.some.inj hi
       have P0 := hS.2.2.2 0 _ 14 rfl rfl (hall { on := 0, ground := .data } (by simp) rfl)
       replace P0 : a.eval (.tmp 14) = .agg #[.int .i64 p, .int .i64 q, .slice a2 L.length c2] := P0
       have e2 : a.eval (.tmp 2) = .pointer (some ⟨w.heap.size, 0, none⟩) := hS.2.2.1 2 (noDst_of (by kernel_rfl))
       obtain ⟨_, _, _, _, x, y, a6, n6, c6, hA, _⟩ := id hG
       obtain ⟨⟨c0, c1, c2'⟩, f0, f1, f2⟩ := id hA
       refine op_store (w' := set3 w5 w.heap.size (.int .i64 p) (.int .i64 q) (.slice a2 L.length c2)) rfl rfl rfl (by intro ev ht hc hf; rw [← ht] at P0 e2; unfold set3; simp [execOp, hc, hf, P0, e2, go_sem, c0, c1, c2', f0, f1, f2]; try go_simp) ⟨.inr ⟨rfl, rfl⟩, growF_set3 _ zO _ _ _, hG.desk zd zO (Nat.le_refl _) hTA zO⟩
     · obtain rfl := Option.some.inj hi
       have P2 := hS.2.2.2 2 _ 16 rfl rfl (hall { on := 2, ground := .data } (by simp) rfl)
       obtain ⟨b6, d6, X, C6, e6, hX, hn⟩ := id P2
       refine op_value (v := .slice b6 X.length d6) (w' := w5) rfl rfl (by intro ev ht hc hf; rw [← ht] at e6; simp [execOp, hc, hf, e6, go_sem]) ⟨.inl ⟨_, 3, rfl, rfl, ⟨b6, d6, X, C6, rfl, hX, hn⟩⟩, growF_refl _ _, hG.same zd zd⟩
   case fin =>
     intro listed a w5 hall hS hG
     have e2 : a.eval (.tmp 2) = .pointer (some ⟨w.heap.size, 0, none⟩) := hS.2.2.1 2 (noDst_of (by kernel_rfl))
     obtain ⟨b6, d6, X, C6, e3, hX, hX41⟩ := hS.2.2.2 4 _ 3 rfl rfl (hall 4 zd)
     have hd : a.defers = [] := hS.1
     have hsz : a.tmps.size = 17 := hS.2.1
     obtain ⟨hB, _, hI, _, x, y, a6, n6, c6, hA, hl3⟩ := hG
     obtain ⟨rfl, rfl, hsl⟩ := hl3 (hall 3 zd)
     rw [hsl] at hA
     have hC : w2.heap.size ≤ w5.heap.size := by obtain ⟨_, _, _, hC, _⟩ := id hI; exact hC
     have hC6 : C6 ≤ w5.heap.size := by obtain ⟨_, _, _, hC, _⟩ := id hX; exact hC
     obtain ⟨t, d⟩ := a
     clear hS hall hsl hl3
     dsimp only at hd hsz
     subst hd
     obtain ⟨u0, u1, u4, u5, u6, u7, u8, u9, u10, u11, u12, u13, u14, u15, u16, rfl⟩ := act17 t hsz _ _ e2 e3
     clear e2 e3 hsz hen
     refine hK _ _ ?_
     clear hK K
     obtain ⟨⟨c0, c1, c2'⟩, f0, f1, f2⟩ := hA
     go_wp2_with fail
     refine bodyPost_ret (v := .tuple #[.agg #[.int .i64 x, .int .i64 y, .slice a2 L.length c2], .slice b6 X.length d6]) (by simp [results, Tryz.results12, go_sem]; go_simp) rfl ⟨x, y, a2, c2, L, b6, d6, X, rfl, hI.mono zO hC (Nat.le_refl _), hL2, hX.mono zO hC6 (Nat.le_refl _), hX41, hB⟩
end
section
open Go.RowKit
theorem deedT_lenJ (x : DeedN) : (deedT x).length ≤ 12 := by
 unfold deedT
 have h1 := digN_len x.a
 have h2 := digN_len x.b
 split
 · split
   · simp only [List.length_append, List.length_cons, List.length_nil]; omega
   · simp
 · split
   · split
     · simp
     · split
       · simp
       · split
         · simp
         · split <;> simp
   · simp
def journV (L : List DeedN) : List UInt8 := if notedN L = true then journalN L else []
theorem journalN_append (L M : List DeedN) : journalN (L ++ M) = journalN L ++ journalN M := by
 induction L with
 | nil => rfl
 | cons x L ih => simp only [List.cons_append, journalN, ih, List.append_assoc]
theorem journalN_next {L : List DeedN} {i : Nat} {x : DeedN} (h : L[i]? = some x) : journalN (L.take (i + 1)) = journalN (L.take i) ++ deedT x ++ [10] := by
 obtain ⟨hi, rfl⟩ := List.getElem?_eq_some_iff.1 h
 rw [List.take_succ_eq_append_getElem hi, journalN_append]
 simp [journalN]
theorem journalN_len : ∀ (L : List DeedN), (journalN L).length ≤ 13 * L.length
 | [] => by simp [journalN]
 | x :: L => by
   have h1 := journalN_len L
   have h2 := deedT_lenJ x
   simp only [journalN, List.length_append, List.length_cons, List.length_nil]
   omega
theorem noted_next {L : List DeedN} {i : Nat} {x : DeedN} (h : L[i]? = some x) (hn : notedN (L.take i) = true) (hx : deedT x ≠ []) : notedN (L.take (i + 1)) = true := by
 obtain ⟨hi, rfl⟩ := List.getElem?_eq_some_iff.1 h
 rw [List.take_succ_eq_append_getElem hi]
 unfold notedN at *
 rw [List.all_append, hn]
 simp [hx]
theorem noted_not {L : List DeedN} {i : Nat} {x : DeedN} (h : L[i]? = some x) (hx : deedT x = []) : journV L = [] := by
 unfold journV
 rw [if_neg]
 intro hn
 have := List.all_eq_true.1 hn x (List.mem_of_getElem? h)
 rw [hx] at this
 simp at this
theorem journV_yes {L : List DeedN} (h : notedN L = true) : journV L = journalN L := if_pos h
theorem deed_at_i {L : List DeedN} {i : Nat} (h : i < L.length) : ∃ x y z, L[i]? = some ⟨x, y, z⟩ := ⟨_, _, _, List.getElem?_eq_getElem h⟩
set_option maxRecDepth 100000 in
set_option maxHeartbeats 4000000 in
theorem specJournal_any (B C : Nat) (L : List DeedN) (v : Value) (w : World) (h : IsDeeds B C w v L) (hn : L.length ≤ 1048600) : Calls Tryz.prog 39 #[v] w fun e w' => e = .returned (.string (txt (journV L))) ∧ Below w.heap.size w w' := by
 obtain ⟨a, cap, rfl, hC, hs⟩ := h
 go_enter Tryz.func39, Tryz.ntmps39
 go_wp2_with fail
 go_loopw [3, 4] (fun x3 x4 wr => ∃ (i : Nat) (O : ByteArray), i ≤ L.length ∧ x4 = .int .i64 i ∧ x3 = .string O ∧ O.data.toList = journalN (L.take i) ∧ O.size ≤ 13 * i ∧ notedN (L.take i) = true ∧ Below w.heap.size w wr) (fun _ x4 _ => L.length - (intOf x4).toNat)
 case atStart => exact ⟨0, ⟨#[]⟩, Nat.zero_le _, rfl, rfl, rfl, Nat.le_refl _, rfl, Below.refl _ _⟩
 case round =>
   obtain ⟨i, O, hi, rfl, rfl, hO, hOs, hno, hB⟩ := hrel
   by_cases hlt : i < L.length
   · rcases hs with rfl | ⟨g, off, rfl, h1, h2, hc, hf⟩
     · simp at hlt
     have HC := Lib.hid hc
     obtain ⟨x, y, z, hp⟩ := deed_at_i hlt
     have hg := h2.1
     have k0 : wr.cell? ⟨g, off + i * 3, none⟩ = some (.int .i64 x) := (hB.cell (p := ⟨g, off + i * 3, none⟩) (by show g < _; omega)).trans (HC.out i _ hp).1
     have k1 : wr.cell? ⟨g, off + i * 3 + 1, none⟩ = some (.int .i64 y) := (hB.cell (p := ⟨g, off + i * 3 + 1, none⟩) (by show g < _; omega)).trans (HC.out i _ hp).2.1
     have k2 : wr.cell? ⟨g, off + i * 3 + 2, none⟩ = some (.int .i64 z) := (hB.cell (p := ⟨g, off + i * 3 + 2, none⟩) (by show g < _; omega)).trans (HC.out i _ hp).2.2
     have hil : (i : Int) < (L.length : Int) := by omega
     have hi0 : (0 : Int) ≤ (i : Int) := by omega
     have Wi : IntKind.i64.wrap ((i : Int) + 1) = (i : Int) + 1 := by rw [IntKind.wrap_i64]; omega
     have hgw : g < wr.heap.size := by have := hB.size; omega
     have HP := Lib.hid hp
     have HB := Lib.hid hB
     have HO := Lib.hid hO
     have HNO := Lib.hid hno
     have hdt := fun W => specText_any x y z W
     have hem : (txt (deedT ⟨x, y, z⟩)).toList.isEmpty = (deedT ⟨x, y, z⟩).isEmpty := by rw [bl_toList]; rfl
     have hln := deedT_lenJ ⟨x, y, z⟩
     obtain ⟨t, ht⟩ : ∃ t, txt (deedT ⟨x, y, z⟩) = t := ⟨_, rfl⟩
     have hts : t.size ≤ 12 := by rw [← ht, txt_size]; exact hln
     have HTL := Lib.hid (show t.data.toList = deedT ⟨x, y, z⟩ by rw [← ht]; rfl)
     rw [ht] at hdt hem
     have HDT := Lib.hid hdt
     have hz0 := hB.size
     clear hc hf hp hB hO hno hdt ht hln h2
     by_cases hd : deedT ⟨x, y, z⟩ = []
     · have hemp : t.toList.isEmpty = true := by rw [hem, hd]; rfl
       have HN := Lib.hid (noted_not HP.out hd)
       clear hem hd
       go_wp2_with fail
       refine (HDT.out _).mono ?_
       rintro e w1 ⟨rfl, hb1⟩
       go_wp2
       go_ret
       exact ⟨by rw [HN.out]; rfl, HB.out.trans (hb1.mono hz0)⟩
     · have hemp : t.toList.isEmpty = false := by
         rw [hem]
         cases hcc : deedT ⟨x, y, z⟩ with
         | nil => exact absurd hcc hd
         | cons _ _ => rfl
       have HNX := Lib.hid (noted_next HP.out HNO.out hd)
       have s1 : ¬ 9223372036854775807 < O.size + t.size := by omega
       have s2 : ¬ 9223372036854775807 < O.size + t.size + 1 := by omega
       clear hem hd
       go_wp2_with fail
       refine (HDT.out _).mono ?_
       rintro e w1 ⟨rfl, hb1⟩
       have hz1 := hb1.size
       have m0 : w1.cell? ⟨g, off + i * 3, none⟩ = some (.int .i64 x) := (hb1.cell (p := ⟨g, off + i * 3, none⟩) hgw).trans k0
       have m1 : w1.cell? ⟨g, off + i * 3 + 1, none⟩ = some (.int .i64 y) := (hb1.cell (p := ⟨g, off + i * 3 + 1, none⟩) hgw).trans k1
       have m2 : w1.cell? ⟨g, off + i * 3 + 2, none⟩ = some (.int .i64 z) := (hb1.cell (p := ⟨g, off + i * 3 + 2, none⟩) hgw).trans k2
       have HB1 := Lib.hid (HB.out.trans (hb1.mono hz0))
       clear hb1 k0 k1 k2
       go_wp2_with fail
       refine (HDT.out _).mono ?_
       rintro e w2 ⟨rfl, hb2⟩
       have HB2 := Lib.hid (HB1.out.trans (hb2.mono zO))
       clear hb2 m0 m1 m2
       go_wp2
       go_roundw
       case rel =>
         refine ⟨i + 1, O ++ t ++ ⟨#[10]⟩, by omega, congrArg (Value.int .i64) zO, rfl, ?_, ?_, HNX.out, HB2.out⟩
         · rw [journalN_next HP.out, ByteArray.data_append, Array.toList_append, ByteArray.data_append, Array.toList_append, HO.out, HTL.out]
         · rw [ByteArray.size_append, ByteArray.size_append]; show O.size + t.size + 1 ≤ _; omega
       case measure => simp [intOf]; omega
   · obtain rfl : i = L.length := by omega
     rw [List.take_length] at hO hno
     have HE := Lib.hid (show O = txt (journV L) from txt_eq (by rw [hO, journV_yes hno]; rfl))
     clear hO hno hs
     go_wp2
     go_ret
     exact ⟨by rw [← HE.out]; rfl, hB⟩
end
section
open Go.RowKit
theorem IsDeeds.grown {B C : Nat} {w w' : World} {row : Option Nat} {v : Value} {L : List DeedN} (h : IsDeeds B C w v L) (hg : w.grownBy w' row) (hr : ∀ g, row = some g → g < B ∨ C ≤ g) : IsDeeds B C w' v L := by
 obtain ⟨a, cap, rfl, hC, hs⟩ := h
 refine ⟨a, cap, rfl, Nat.le_trans hC hg.size, ?_⟩
 rcases hs with hs | ⟨g, off, ha, h1, h2, hc, hf⟩
 · exact .inl hs
 · have hne : some g ≠ row := fun e => by have := hr g e.symm; omega
   exact .inr ⟨g, off, ha, h1, h2, fun i p hi => ⟨(hg.cell_far ⟨g, off + i * 3, none⟩ (by show g < w.heap.size; omega) hne).trans (hc i p hi).1, (hg.cell_far ⟨g, off + i * 3 + 1, none⟩ (by show g < w.heap.size; omega) hne).trans (hc i p hi).2.1, (hg.cell_far ⟨g, off + i * 3 + 2, none⟩ (by show g < w.heap.size; omega) hne).trans (hc i p hi).2.2⟩, fun i hi => (hg.frozen_far ⟨g, off + i, none⟩ (by show g < w.heap.size; omega) hne).trans (hf i hi)⟩
def NotedDrawn (w : World) (R k : Nat) (e : Ending) (w' : World) : Prop :=
 ∃ (a : Option Addr) (c : Nat) (X : List DeedN), e = .returned (.slice a X.length c) ∧ w'.ownsRow w.heap.size 40 3 (.slice a X.length c) X.length (deedCells X) ∧ X.length ≤ 5 ∧ Rd w' R (k + 31) ∧ w.grownBy w' (some R)
set_option maxRecDepth 100000 in
set_option maxHeartbeats 4000000 in
theorem l20Noted_any (R k : Nat) (w : World) (h : Rd w R k) (hk : k ≤ 900000) :
   Calls Tryz.prog 40 #[.pointer (some ⟨R, 0, none⟩)] w (NotedDrawn w R k) := by
 obtain ⟨i0, hi0, hz0, hzs1, hz2⟩ := info_parts3 info_deed
 have hRlt := h.lt
 have HMD := Lib.hid (show (w.alloc (.cells #[] 40)).ownsRow w.heap.size 40 3 (.slice (some ⟨w.heap.size, 0, none⟩) 0 0) 0 [] from World.ownsRow_made w #[] 0 (Nat.le_refl _) (by unfold maxLen; omega) rfl)
 go_enter Tryz.func40, Tryz.ntmps40
 go_wp2_with fail
 refine (l20Deeds_any R k _ (h.alloc _) hk).mono ?_
 rintro e w1 ⟨b, cb, Y, rfl, hY, hY5, hR1, hh1⟩
 have hO1 := own_grows HMD.out hh1 hRlt
 have hg1 := gr_trans (gr_alloc (gr_refl w R) _) hh1
 have hz1 := hh1.size
 simp only [World.size_alloc] at hz1 hY
 clear hh1 HMD
 go_wp2_with fail
 go_loopw [3, 5] (fun x3 x5 wr => ∃ (i : Nat) (X : List DeedN) (a : Option Addr) (c : Nat), x3 = .slice a X.length c ∧ x5 = .int .i64 i ∧ i ≤ Y.length ∧ X.length ≤ i ∧ wr.ownsRow w.heap.size 40 3 (.slice a X.length c) X.length (deedCells X) ∧ (∀ g, (Value.slice a X.length c).ownBlock = some g → g < w.heap.size + 1 ∨ w1.heap.size ≤ g) ∧ IsDeeds (w.heap.size + 1) w1.heap.size wr (.slice b Y.length cb) Y ∧ Rd wr R (k + 31) ∧ w1.heap.size ≤ wr.heap.size ∧ w.grownBy wr (some R)) (fun _ x5 _ => Y.length - (intOf x5).toNat)
 case atStart => exact ⟨0, [], _, _, rfl, rfl, by omega, by simp, hO1, (fun g e => by simp [Value.ownBlock] at e; omega), hY, hR1, Nat.le_refl _, hg1⟩
 case round =>
   obtain ⟨i, X, a, c, rfl, rfl, hi, hX, hO, hob, hYr, hR, hzr, hg⟩ := hrel
   clear hO1 hY hR1 hg1
   have HO := Lib.hid hO
   have HYR := Lib.hid hYr
   have HOB := Lib.hid hob
   have HG := Lib.hid hg
   have HR := Lib.hid hR
   have hlk := Lib.hid hO.lt
   clear hO hob hg hR
   by_cases hlt : i < Y.length
   · obtain ⟨a', cap', hv, hC, hs⟩ := hYr
     injection hv with hv1 hv2 hv3
     subst hv1 hv3
     rcases hs with rfl | ⟨g, off, rfl, h1, h2, hc, hf⟩
     · simp at hlt
     have HC := Lib.hid hc
     obtain ⟨x, y, z, hp⟩ := deed_at_i hlt
     have hg' := h2.1
     have k0 : wr.cell? ⟨g, off + i * 3, none⟩ = some (.int .i64 x) := (HC.out i _ hp).1
     have k1 : wr.cell? ⟨g, off + i * 3 + 1, none⟩ = some (.int .i64 y) := (HC.out i _ hp).2.1
     have k2 : wr.cell? ⟨g, off + i * 3 + 2, none⟩ = some (.int .i64 z) := (HC.out i _ hp).2.2
     have hil : (i : Int) < (Y.length : Int) := by omega
     have hi0' : (0 : Int) ≤ (i : Int) := by omega
     have Wi : IntKind.i64.wrap ((i : Int) + 1) = (i : Int) + 1 := by rw [IntKind.wrap_i64]; omega
     have hgw : g < wr.heap.size := by omega
     have hdt := fun W => specText_any x y z W
     have hem : (txt (deedT ⟨x, y, z⟩)).toList.isEmpty = (deedT ⟨x, y, z⟩).isEmpty := by rw [bl_toList]; rfl
     have hln := deedT_lenJ ⟨x, y, z⟩
     obtain ⟨t, ht⟩ : ∃ t, txt (deedT ⟨x, y, z⟩) = t := ⟨_, rfl⟩
     have hts : t.size ≤ 12 := by rw [← ht, txt_size]; exact hln
     rw [ht] at hdt hem
     have HDT := Lib.hid hdt
     have HH := Lib.hid (show t.toList.isEmpty = true ∨ t.toList.isEmpty = false by cases t.toList.isEmpty <;> simp)
     clear hc hf hp hdt ht hln h2 hem HC
     go_wp2_with fail
     refine (HDT.out _).mono ?_
     rintro e w2 ⟨rfl, hb2⟩
     have hz2' := hb2.size
     obtain ⟨hc2, hf2⟩ := bcell hb2
     have l0 : w2.cell? ⟨g, off + i * 3, none⟩ = some (.int .i64 x) := (hc2 _ _ hgw).trans k0
     have l1 : w2.cell? ⟨g, off + i * 3 + 1, none⟩ = some (.int .i64 y) := (hc2 _ _ hgw).trans k1
     have l2 : w2.cell? ⟨g, off + i * 3 + 2, none⟩ = some (.int .i64 z) := (hc2 _ _ hgw).trans k2
     have HO2 := Lib.hid (own_keeps HO.out hb2)
     have HR2 := Lib.hid (HR.out.below hb2 (Nat.le_refl _))
     have HG2 := Lib.hid (gr_below HG.out hb2)
     have HY2 := Lib.hid (HYR.out.below hb2 hzr)
     have hgw2 : g < w2.heap.size := by omega
     have hwz := HG.out.size
     clear hc2 hf2 hb2 k0 k1 k2 HO HR HG HYR HDT
     rcases HH.out with hemp | hemp
     · clear HH
       go_wp2
       go_roundw
       case rel => exact ⟨i + 1, X, a, c, rfl, congrArg (Value.int .i64) zO, by omega, by omega, HO2.out, HOB.out, HY2.out, HR2.out, by omega, HG2.out⟩
       case measure => simp [intOf]; omega
     · clear HH
       go_wp2_with (at_builtin; refine wpList_append_deeds _ rfl _ _ 24 rfl w.heap.size 40 i0 _ 24 Tryz.underlying24 hi0 hz0 hzs1 hz2 rfl (.slice a X.length c) X.length (deedCells X) rfl (HO2.out.alloc _) w2.heap.size (w2.heap.size + 1) _ [⟨x, y, z⟩] rfl (IsDeeds.new _ x y z _ _ rfl) (X.length + 1) rfl (deedCells (X ++ [⟨x, y, z⟩])) (deedCells_append _ _) (by unfold maxLen; omega) zO (by simp; omega) ?_)
       intro a7 c7 w7 hown7 hgrow7 hat7
       have hR7 : Rd w7 R (k + 31) := by
         have hb7 : Below w.heap.size (w2.alloc (.cells #[.int .i64 x, .int .i64 y, .int .i64 z] 40)) w7 := (Below.refl _ _).grown hgrow7 (by simp; omega) (fun g e => (HO2.out.lt g e).1)
         exact rd_under (HR2.out.alloc _) hb7 hRlt
       have hg7 : w.grownBy w7 (some R) := gr_own (gr_alloc HG2.out _) hgrow7 (fun g e => (HO2.out.lt g e).1)
       have hY7 := ((HY2.out.below ((Below.refl _ _).alloc zO (.cells #[.int .i64 x, .int .i64 y, .int .i64 z] 40)) (Nat.le_refl _)).grown hgrow7 (fun g e => HOB.out g e))
       have hz7 := hgrow7.size
       simp at hz7
       have HO7 := Lib.hid hown7
       have HB7 := Lib.hid (show ∀ g, (Value.slice a7 (X.length + 1) c7).ownBlock = some g → g < w.heap.size + 1 ∨ w1.heap.size ≤ g by
         intro g e
         rcases hat7 with hat | hat
         · exact HOB.out g (hat ▸ e)
         · rw [hat] at e; injection e with e; omega)
       have HY7 := Lib.hid hY7
       clear hown7 hgrow7 hat7 hY7 HO2 HR2 HG2 HY2 HOB
       go_wp2
       go_roundw
       case rel => exact ⟨i + 1, X ++ [⟨x, y, z⟩], a7, c7, by simp, congrArg (Value.int .i64) zO, by omega, by simp; omega, by simpa using HO7.out, by simpa using HB7.out, HY7.out, hR7, by omega, hg7⟩
       case measure => simp [intOf]; omega
   · clear hYr
     go_wp2
     go_ret
     exact ⟨a, c, X, rfl, HO.out, by omega, HR.out, HG.out⟩
end
section
open Go.RowKit
def JAt (l : List UInt8) (X : List DeedN) (fr i : Nat) : Prop :=
 readJ [] l = (X ++ (readJ ((l.drop fr).take (i - fr)) (l.drop i)).1, fr + (readJ ((l.drop fr).take (i - fr)) (l.drop i)).2) ∧ X.length ≤ fr ∧ fr ≤ i ∧ i ≤ l.length
theorem jat_start (l : List UInt8) : JAt l [] 0 0 := ⟨by simp, by simp, by simp, by simp⟩
theorem jat_on {l : List UInt8} {X : List DeedN} {fr i : Nat} (h : JAt l X fr i) (hi : i < l.length) (hc : ¬ l[i] = 10) : JAt l X fr (i + 1) := by
 obtain ⟨h1, h2, h3, h4⟩ := h
 refine ⟨?_, h2, by omega, hi⟩
 rw [h1, List.drop_eq_getElem_cons hi, readJ, if_neg hc, take_more h3 hi]
theorem jat_more {l : List UInt8} {X : List DeedN} {fr i : Nat} {x : DeedN} (h : JAt l X fr i) (hi : i < l.length) (hc : l[i] = 10) (hr : readN ((l.drop fr).take (i - fr)) = some x) : JAt l (X ++ [x]) (i + 1) (i + 1) := by
 obtain ⟨h1, h2, h3, h4⟩ := h
 refine ⟨?_, by simp; omega, Nat.le_refl _, hi⟩
 have hl : ((l.drop fr).take (i - fr)).length = i - fr := by rw [List.length_take, List.length_drop]; omega
 rw [h1, List.drop_eq_getElem_cons hi, readJ, if_pos hc, hr]
 simp only [hl, Nat.sub_self, List.take_zero, List.append_assoc, List.singleton_append, Prod.mk.injEq, true_and]
 omega
theorem jat_stop {l : List UInt8} {X : List DeedN} {fr i : Nat} (h : JAt l X fr i) (hi : i < l.length) (hc : l[i] = 10) (hr : readN ((l.drop fr).take (i - fr)) = none) : readJ [] l = (X, fr) := by
 obtain ⟨h1, h2, h3, h4⟩ := h
 rw [h1, List.drop_eq_getElem_cons hi, readJ, if_pos hc, hr]
 simp
theorem jat_end {l : List UInt8} {X : List DeedN} {fr i : Nat} (h : JAt l X fr i) (hi : i = l.length) : readJ [] l = (X, fr) := by
 obtain ⟨h1, h2, h3, h4⟩ := h
 subst hi
 rw [h1, List.drop_length, readJ]
 simp
theorem jat_skip {l : List UInt8} {X : List DeedN} {fr : Nat} (h : JAt l X fr fr) : ∀ (o : Nat), fr + o ≤ l.length → (∀ k, k < o → (l.drop fr)[k]? ≠ some 10) → JAt l X fr (fr + o)
 | 0, _, _ => h
 | o + 1, ho, hk => by
   have hi : fr + o < l.length := by omega
   refine jat_on (jat_skip h o zO fun k hk' => hk k zO) hi fun e => hk o zO ?_
   rw [List.getElem?_drop, List.getElem?_eq_getElem hi]
   exact congrArg some e
def JournS (w : World) (l : List UInt8) (e : Ending) (w' : World) : Prop :=
 ∃ (a : Option Addr) (c : Nat), e = .returned (.tuple #[.slice a (readJ [] l).1.length c, .int .i64 (readJ [] l).2]) ∧ IsDeeds w.heap.size w'.heap.size w' (.slice a (readJ [] l).1.length c) (readJ [] l).1 ∧ Below w.heap.size w w'
theorem journS_at {w w' : World} {l : List UInt8} {X : List DeedN} {fr : Nat} {a : Option Addr} {c : Nat} (h : readJ [] l = (X, fr)) (hO : w'.ownsRow w.heap.size 40 3 (.slice a X.length c) X.length (deedCells X)) (hB : Below w.heap.size w w') : JournS w l (.returned (.tuple #[.slice a X.length c, .int .i64 fr])) w' := by
 unfold JournS
 rw [h]
 exact ⟨a, c, rfl, IsDeeds.of_owns hO, hB⟩
set_option maxRecDepth 100000 in
set_option maxHeartbeats 4000000 in
theorem specReadJ_any (s : ByteArray) (w : World) (hs : s.size ≤ 1048600) : Calls Tryz.prog 10 #[.string s] w (JournS w s.data.toList) := by
 obtain ⟨i0, hi0, hz0, hzs1, hz2⟩ := info_parts3 info_deed
 have hsl : s.data.toList.length = s.size := bl_size s
 have HSL := Lib.hid hsl
 obtain ⟨l, hl⟩ : ∃ l, s.data.toList = l := ⟨_, rfl⟩
 have HL := Lib.hid hl
 rw [hl] at hsl ⊢
 clear hl
 have HM := Lib.hid (show (w.alloc (.cells #[] 40)).ownsRow w.heap.size 40 3 (.slice (some ⟨w.heap.size, 0, none⟩) 0 0) 0 [] from World.ownsRow_made w #[] 0 (Nat.le_refl _) (by unfold maxLen; omega) rfl)
 go_enter Tryz.func10, Tryz.ntmps10
 go_wp2_with fail
 go_loopw [4, 5, 6] (fun x4 x5 x6 wr => ∃ (i fr : Nat) (X : List DeedN) (a : Option Addr) (c : Nat), x4 = .slice a X.length c ∧ x5 = .int .i64 fr ∧ x6 = .int .i64 i ∧ JAt l X fr i ∧ wr.ownsRow w.heap.size 40 3 (.slice a X.length c) X.length (deedCells X) ∧ w.heap.size < wr.heap.size ∧ Below w.heap.size w wr) (fun _ _ x6 _ => 2097200 - (intOf x6).toNat)
 case atStart => exact ⟨0, 0, [], _, _, rfl, rfl, rfl, jat_start l, HM.out, by simp, (Below.refl _ _).alloc (Nat.le_refl _) _⟩
 case round =>
   obtain ⟨i, fr, X, a, c, rfl, rfl, rfl, hj, hO, hz, hB⟩ := hrel
   have hX := hj.2.1
   have hfr := hj.2.2.1
   have hi := hj.2.2.2
   have hfi : (fr : Int) ≤ (i : Int) := by omega
   have hi0' : (0 : Int) ≤ (i : Int) := by omega
   have hf0 : (0 : Int) ≤ (fr : Int) := by omega
   have hfs : fr ≤ s.size := by omega
   have hfs' : (fr : Int) ≤ (s.size : Int) := by omega
   have HO := Lib.hid hO
   have HB := Lib.hid hB
   have HJ := Lib.hid hj
   have hlk := hO.lt
   by_cases hlt : i < s.size
   · have hki : (i : Int) < (s.size : Int) := by omega
     have his : (i : Int) ≤ (s.size : Int) := by omega
     have hil : i < l.length := by omega
     have hxi : s[i]'hlt = l[i] := by
       have h1 : s.data.toList[i]? = l[i]? := by rw [HL.out]
       have h2 : i < s.data.toList.length := by rw [HSL.out]; exact hlt
       rw [List.getElem?_eq_getElem h2, List.getElem?_eq_getElem hil] at h1
       exact (Array.getElem_toList ..).symm.trans (Option.some.inj h1)
     have Wi : IntKind.i64.wrap ((i : Int) + 1) = (i : Int) + 1 := by rw [IntKind.wrap_i64]; omega
     have hx8 := (s[i]'hlt).toNat_lt
     by_cases h10 : l[i] = 10
     · have hbt : ((s[i]'hlt).toNat : Int) = 10 := by rw [hxi, h10]; rfl
       have hex : (s.extract fr i).data.toList = (l.drop fr).take (i - fr) := by rw [extract_txt, HL.out]; rfl
       have hes : (s.extract fr i).size ≤ 2097152 := by simp [ByteArray.size_extract]; omega
       have hrd := fun W => specDeedRead_any (s.extract fr i) W hes
       rw [hex] at hrd
       clear hO hB hj HM hxi hex
       cases hr : readN ((l.drop fr).take (i - fr)) with
       | none =>
         have HE := Lib.hid (jat_stop HJ.out hil h10 hr)
         rw [deedV_none hr] at hrd
         clear hr h10
         go_wp2_with fail
         refine (hrd _).mono ?_
         rintro e w1 ⟨rfl, hb1⟩
         have hz1 := hb1.size
         have HO1 := Lib.hid (own_keeps HO.out hb1)
         have HB1 := Lib.hid (HB.out.trans (hb1.mono zO))
         clear hb1 HO HB
         go_wp2
         go_ret2
         exact journS_at HE.out (own_keeps HO1.out (by (repeat (first | exact Below.refl _ _ | refine Below.setCell ?_ zo _ | refine Below.alloc ?_ zo _)))) (by (repeat (first | exact HB1.out | refine Below.setCell ?_ zo _ | refine Below.alloc ?_ zo _)))
       | some x =>
         have HE := Lib.hid (jat_more HJ.out hil h10 hr)
         rw [deedV_some hr] at hrd
         clear hr h10
         obtain ⟨k, p, q⟩ := x
         go_wp2_with fail
         refine (hrd _).mono ?_
         rintro e w1 ⟨rfl, hb1⟩
         have hz1 := hb1.size
         have HO1 := Lib.hid (own_keeps HO.out hb1)
         have HB1 := Lib.hid (HB.out.trans (hb1.mono zO))
         clear hb1 HO HB
         dsimp only
         go_wp2_with (at_builtin; refine wpList_append_deeds _ rfl _ _ 24 rfl w.heap.size 40 i0 _ 24 Tryz.underlying24 hi0 hz0 hzs1 hz2 rfl (.slice a X.length c) X.length (deedCells X) rfl ((HO1.out.alloc _).alloc _) (w1.heap.size + 1) (w1.heap.size + 2) _ [⟨k, p, q⟩] rfl (IsDeeds.new _ k p q _ _ (by simp)) (X.length + 1) rfl (deedCells (X ++ [⟨k, p, q⟩])) (deedCells_append _ _) (by unfold maxLen; omega) zO (by simp; omega) ?_)
         intro a7 c7 w7 hown7 hgrow7 hat7
         have HB7 := Lib.hid (show Below w.heap.size w w7 from ((HB1.out.alloc zO _).alloc (by simp; omega) _).grown hgrow7 (by simp; omega) (fun g e => (hlk g e).1))
         have hz7 := hgrow7.size
         simp at hz7
         have HO7 := Lib.hid hown7
         clear hown7 hgrow7 hat7 HO1
         go_wp2
         go_roundw
         case rel => exact ⟨i + 1, i + 1, X ++ [⟨k, p, q⟩], a7, c7, by simp, congrArg (Value.int .i64) zO, congrArg (Value.int .i64) zO, HE.out, by simpa using HO7.out, by omega, HB7.out⟩
         case measure => simp [intOf]; omega
     · have hbt : ¬ ((s[i]'hlt).toNat : Int) = 10 := by
         rw [hxi]
         intro e
         have e' : l[i].toNat = 10 := by omega
         exact h10 (by rw [← UInt8.toNat_inj]; exact e')
       have HE := Lib.hid (jat_on HJ.out hil h10)
       clear hO hB hj HM hxi
       go_wp2
       go_roundw
       case rel => exact ⟨i + 1, fr, X, a, c, rfl, rfl, congrArg (Value.int .i64) zO, HE.out, HO.out, hz, HB.out⟩
       case measure => simp [intOf]; omega
   · have HE := Lib.hid (jat_end HJ.out (show i = l.length by omega))
     clear hO hB hj HM
     go_wp2
     go_ret2
     exact journS_at HE.out HO.out HB.out
end
section
open Go.RowKit Go.Shelf
def txtAt (X : List ByteArray) (k : Nat) : ByteArray := X.getD k ⟨#[]⟩
end
section
open Go.ChangeShapes Go.WideShapes Go.ChangeAt Go.RowKit Go.Joins Go.Deep
def SeesStrs (w : World) (v : Value) (X : List ByteArray) : Prop :=
 ∃ (a : Option Addr) (cap : Nat), v = .slice a X.length cap ∧ (∀ i, i < X.length → (txtAt X i).size ≤ maxLen) ∧
   (X = [] ∨ ∃ g off, a = some ⟨g, off, none⟩ ∧ g < w.heap.size ∧ ∀ i, i < X.length → w.cell? ⟨g, off + i, none⟩ = some (.string (txtAt X i)))
theorem SeesStrs.below {w w' : World} {v : Value} {X : List ByteArray} (h : SeesStrs w v X) (hb : Below w.heap.size w w') : SeesStrs w' v X := by
 obtain ⟨a, cap, rfl, hsz, hs⟩ := h
 refine ⟨a, cap, rfl, hsz, ?_⟩
 rcases hs with hs | ⟨g, off, ha, hg, hc⟩
 · exact .inl hs
 · exact .inr ⟨g, off, ha, Nat.lt_of_lt_of_le hg hb.size, fun i hi => (hb.cell (p := ⟨g, off + i, none⟩) hg).trans (hc i hi)⟩
end
section
open Go.RowKit
theorem journV_most (X : List DeedN) : (journV X).length ≤ 13 * X.length := by
 unfold journV
 split
 · exact journalN_len X
 · simp
set_option maxRecDepth 100000 in
set_option maxHeartbeats 2000000 in
theorem drawReadJ_any (w : World) (a : Option Addr) (len cap : Nat) (zs : List Int) (h : IsRow w a len cap zs) : Calls Tryz.prog 8 #[.slice a len cap] w (TextSeen w) := by
 go_enter Tryz.func8, Tryz.ntmps8
 go_wp2_with fail
 refine (open_any _ _ _ _ zs h).mono ?_
 rintro e w1 ⟨rfl, hR1, hh1, hzR1⟩
 go_wp2_with fail
 refine (l20Noted_any w.heap.size 0 _ hR1 zO).mono ?_
 rintro e w2 ⟨b, c, X, rfl, hO2, hX5, hR2, hh2⟩
 have hB2 : Below w.heap.size w w2 := hh1.grown hh2 hh1.size (fun k e => by cases e; exact Nat.le_refl _)
 have hD2 := IsDeeds.of_owns hO2
 have hjl := journV_most X
 have hdt := fun W B C hI => specJournal_any B C X (.slice b X.length c) W hI zO
 obtain ⟨t, ht⟩ : ∃ t, txt (journV X) = t := ⟨_, rfl⟩
 have hts : t.size ≤ 100 := by rw [← ht, txt_size]; omega
 rw [ht] at hdt
 have HDT := Lib.hid hdt
 clear hdt ht hjl hO2 hh1 hh2
 go_wp2_with fail
 refine (HDT.out _ _ _ hD2).mono ?_
 rintro e w3 ⟨rfl, hb3⟩
 have hR3 := hR2.below hb3 (Nat.le_refl _)
 have hB3 := hB2.trans (hb3.mono hB2.size)
 clear hb3 hB2 hD2 hR2
 go_wp2_with fail
 refine (pick_any w.heap.size _ 3 _ hR3 zO zO).mono ?_
 rintro e w4 ⟨v, rfl, va, vb, hR4, hh4⟩
 have hB4 : Below w.heap.size w w4 := hB3.grown hh4 hB3.size (fun k e => by cases e; exact Nat.le_refl _)
 have v2 : v ≤ 2 := by omega
 clear hh4 hB3 hR3 vb
 rcases three va v2 with rfl | rfl | rfl
 · go_wp2_with fail
   refine (l20Spoil_any w.heap.size _ t _ hR4 zO zO).mono ?_
   rintro e w5 ⟨u, rfl, hu, hR5, hh5⟩
   have hB5 : Below w.heap.size w w5 := hB4.grown hh5 hB4.size (fun k e => by cases e; exact Nat.le_refl _)
   go_wp2
   go_ret
   exact ⟨u, rfl, by omega, hB5⟩
 · have Wt : IntKind.i64.wrap ((t.size : Int) + 1) = (t.size : Int) + 1 := by rw [IntKind.wrap_i64]; omega
   go_wp2_with fail
   refine (pick_any w.heap.size _ ((t.size : Int) + 1) _ hR4 zO zO).mono ?_
   rintro e w5 ⟨v5, rfl, va5, vb5, hR5, hh5⟩
   have hB5 : Below w.heap.size w w5 := hB4.grown hh5 hB4.size (fun k e => by cases e; exact Nat.le_refl _)
   obtain ⟨k, rfl⟩ : ∃ k : Nat, v5 = (k : Int) := ⟨v5.toNat, by omega⟩
   have hk : k ≤ t.size := by omega
   have hki : (k : Int) ≤ (t.size : Int) := by omega
   have hk0 : (0 : Int) ≤ (k : Int) := by omega
   clear va5 vb5 hh5
   go_wp2
   go_ret
   exact ⟨_, rfl, by have := extract_small t 0 k; omega, hB5⟩
 · go_wp2
   go_ret
   exact ⟨t, rfl, by omega, hB4⟩
end
section
open Go.RowKit
theorem specOk_is (B C : Nat) (p q : Int) (L : List (Int × Int)) (v : Value) (w : World) (h : IsPairs B C w v L) (hn : L.length ≤ 1048600) (b : Bool) (hb : deskN ⟨(p, q), L⟩ = b) : Calls Tryz.prog 13 #[.agg #[.int .i64 p, .int .i64 q, v]] w fun e w' => e = .returned (.bool b) ∧ Below w.heap.size w w' := by rw [← hb]; exact specDeskOk_any B C p q L v w h hn
theorem sameDesk_yes (B C B' C' : Nat) (p q : Int) (v u : Value) (L : List (Int × Int)) (w : World) (h : IsPairs B C w v L) (k : IsPairs B' C' w u L) (hn : L.length ≤ 1048600) :
   Calls Tryz.prog 18 #[.agg #[.int .i64 p, .int .i64 q, v], .agg #[.int .i64 p, .int .i64 q, u]] w fun e w' => e = .returned (.bool true) ∧ Below w.heap.size w w' := by
 have := sameDesk_any B C B' C' p q p q v u L L w h k hn hn
 rwa [deskEq_yes rfl] at this
end
section
open Go.RowKit
def runR (d : DeskN) (xs : List DeedN) : DeskN × Nat := if deskN d = true ∧ xs.length ≤ 40 then runN d xs else (⟨(0, 0), []⟩, 0)
theorem runR_no {d : DeskN} {xs : List DeedN} (h : ¬ (deskN d = true ∧ xs.length ≤ 40)) : runR d xs = (⟨(0, 0), []⟩, 0) := if_neg h
theorem runR_yes {d : DeskN} {xs : List DeedN} (h : deskN d = true) (h2 : xs.length ≤ 40) : runR d xs = runN d xs := if_pos ⟨h, h2⟩
theorem runN_snoc (d : DeskN) (xs : List DeedN) (x : DeedN) : runN d (xs ++ [x]) = ((doN (runN d xs).1 x).1, (runN d xs).2 + if (doN (runN d xs).1 x).2 = true then 1 else 0) := by
 rw [runN_append]
 simp [runN]
theorem runN_take {d : DeskN} {xs : List DeedN} {i : Nat} {x : DeedN} (h : xs[i]? = some x) : runN d (xs.take (i + 1)) = ((doN (runN d (xs.take i)).1 x).1, (runN d (xs.take i)).2 + if (doN (runN d (xs.take i)).1 x).2 = true then 1 else 0) := by
 have hlt : i < xs.length := (List.getElem?_eq_some_iff.1 h).1
 have hx : xs[i] = x := (List.getElem?_eq_some_iff.1 h).2
 rw [List.take_succ_eq_append_getElem hlt, hx, runN_snoc]
def RanS (d : DeskN) (xs : List DeedN) (w : World) (e : Ending) (w' : World) : Prop :=
 ∃ a c, e = .returned (.tuple #[.agg #[.int .i64 (runR d xs).1.now.1, .int .i64 (runR d xs).1.now.2, .slice a (runR d xs).1.past.length c], .int .i64 ((runR d xs).2 : Nat)]) ∧ IsPairs w.heap.size w'.heap.size w' (.slice a (runR d xs).1.past.length c) (runR d xs).1.past ∧ Below w.heap.size w w'
end
section
open Go.RowKit
set_option maxHeartbeats 1000000 in
theorem implRun_no (B C B' C' : Nat) (p q : Int) (L : List (Int × Int)) (X : List DeedN) (v u : Value) (w : World) (h : IsPairs B C w v L) (hn : L.length ≤ 1048600) (k : IsDeeds B' C' w u X) (_ : X.length ≤ 1048600) (hd : deskN ⟨(p, q), L⟩ = false) : Calls Tryz.prog 16 #[.agg #[.int .i64 p, .int .i64 q, v], u] w (RanS ⟨(p, q), L⟩ X w) := by
 obtain ⟨a, cap, rfl, hC, hs0⟩ := id h
 obtain ⟨b, cbp, rfl, hC', hs1⟩ := id k
 clear hs0 hs1
 have H := Lib.hid h
 have K := Lib.hid k
 have HD := Lib.hid hd
 clear h k hd
 go_enter Tryz.func16, Tryz.ntmps16
 go_wp2_with fail
 refine (implDeskOk_any B C p q _ _ _ (H.out.below (show Below w.heap.size w _ by exact zb) hC) hn).mono ?_
 rintro e w1 ⟨rfl, hb1⟩
 obtain ⟨hc1, hf1⟩ := bcell hb1
 have hz1 := hb1.size
 simp at hz1
 have hz1a : w.heap.size < w1.heap.size := by omega
 have hz1b : w.heap.size + 1 < w1.heap.size := by omega
 have HB1 := Lib.hid (show Below w.heap.size w w1 by exact zb)
 rw [HD.out]
 clear hb1
 go_wp2_with fail
 refine bodyPost_ret (v := .tuple #[.agg #[.int .i64 0, .int .i64 0, .slice none 0 0], .int .i64 0]) (by simp [results, Tryz.results16, go_sem]; go_simp) rfl ?_
 unfold RanS
 rw [runR_no (by have := HD.out; simp_all <;> omega)]
 refine ⟨none, 0, rfl, IsPairs.mono (IsPairs.empty w.heap.size _ none 0) (Nat.le_refl _) (Nat.le_refl _) (Nat.le_refl _), ?_⟩
 exact (((HB1.out.setCell zs _).setCell zs _).setCell zs _)
set_option maxHeartbeats 1000000 in
theorem implRun_long (B C B' C' : Nat) (p q : Int) (L : List (Int × Int)) (X : List DeedN) (v u : Value) (w : World) (h : IsPairs B C w v L) (hn : L.length ≤ 1048600) (k : IsDeeds B' C' w u X) (hm : X.length ≤ 1048600) (hd : deskN ⟨(p, q), L⟩ = true) (hl : 40 < X.length) : Calls Tryz.prog 16 #[.agg #[.int .i64 p, .int .i64 q, v], u] w (RanS ⟨(p, q), L⟩ X w) := by
 obtain ⟨a, cap, rfl, hC, hs0⟩ := id h
 obtain ⟨b, cbp, rfl, hC', hs1⟩ := id k
 clear hs0 hs1
 have H := Lib.hid h
 have K := Lib.hid k
 have HD := Lib.hid hd
 clear h k hd
 have hli : (40 : Int) < (X.length : Int) := by omega
 go_enter Tryz.func16, Tryz.ntmps16
 go_wp2_with fail
 refine (implDeskOk_any B C p q _ _ _ (H.out.below (show Below w.heap.size w _ by exact zb) hC) hn).mono ?_
 rintro e w1 ⟨rfl, hb1⟩
 obtain ⟨hc1, hf1⟩ := bcell hb1
 have hz1 := hb1.size
 simp at hz1
 have hz1a : w.heap.size < w1.heap.size := by omega
 have hz1b : w.heap.size + 1 < w1.heap.size := by omega
 have HB1 := Lib.hid (show Below w.heap.size w w1 by exact zb)
 rw [HD.out]
 clear hb1
 go_wp2_with fail
 refine bodyPost_ret (v := .tuple #[.agg #[.int .i64 0, .int .i64 0, .slice none 0 0], .int .i64 0]) (by simp [results, Tryz.results16, go_sem]; go_simp) rfl ?_
 unfold RanS
 rw [runR_no (by have := HD.out; simp_all <;> omega)]
 refine ⟨none, 0, rfl, IsPairs.mono (IsPairs.empty w.heap.size _ none 0) (Nat.le_refl _) (Nat.le_refl _) (Nat.le_refl _), ?_⟩
 exact (((HB1.out.setCell zs _).setCell zs _).setCell zs _)
set_option maxRecDepth 100000 in
set_option maxHeartbeats 2000000 in
theorem implRun_yes (B C B' C' : Nat) (p q : Int) (L : List (Int × Int)) (X : List DeedN) (v u : Value) (w : World) (h : IsPairs B C w v L) (hn : L.length ≤ 1048600) (k : IsDeeds B' C' w u X) (hm : X.length ≤ 1048600) (hd : deskN ⟨(p, q), L⟩ = true) (hl : X.length ≤ 40) : Calls Tryz.prog 16 #[.agg #[.int .i64 p, .int .i64 q, v], u] w (RanS ⟨(p, q), L⟩ X w) := by
 obtain ⟨a, cap, rfl, hC, hs0⟩ := id h
 obtain ⟨b, cbp, rfl, hC', hs1⟩ := id k
 clear hs0 hs1
 have H := Lib.hid h
 have K := Lib.hid k
 have HD := Lib.hid hd
 clear h k hd
 have hli : (X.length : Int) ≤ 40 := by omega
 have hl0 : decide ((40 : Int) < (X.length : Int)) = false := by simp; omega
 go_enter Tryz.func16, Tryz.ntmps16
 go_wp2_with fail
 refine (implDeskOk_any B C p q _ _ _ (H.out.below (show Below w.heap.size w _ by exact zb) hC) hn).mono ?_
 rintro e w1 ⟨rfl, hb1⟩
 obtain ⟨hc1, hf1⟩ := bcell hb1
 have hz1 := hb1.size
 simp at hz1
 have hz1a : w.heap.size < w1.heap.size := by omega
 have hz1b : w.heap.size + 1 < w1.heap.size := by omega
 have HB1 := Lib.hid (show Below w.heap.size w w1 by exact zb)
 rw [HD.out]
 clear hb1
 go_wp2_with fail
 refine (deskWith_any B C p q L _ _ (H.out.below HB1.out hC) hn).mono ?_
 rintro e w2 ⟨a2, c2, rfl, hown2, hb2⟩
 dsimp only at hown2 ⊢
 obtain ⟨hc2, hf2⟩ := bcell hb2
 have hz2 := hb2.size
 have hz2a : w.heap.size < w2.heap.size := by omega
 have hz2b : w.heap.size + 1 < w2.heap.size := by omega
 have HB2 := Lib.hid (HB1.out.trans (hb2.mono HB1.out.size))
 have HI2 := Lib.hid (IsPairs.of_owns hown2)
 have kr0 : w2.cell? ⟨w.heap.size + 1, 0, none⟩ = some (.int .i64 0) := by go_simp
 have kr1 : w2.cell? ⟨w.heap.size + 1, 1, none⟩ = some (.int .i64 0) := by go_simp
 have kr2 : w2.cell? ⟨w.heap.size + 1, 2, none⟩ = some (.slice none 0 0) := by go_simp
 have kt0 : w2.frozen? ⟨w.heap.size + 1, 0, none⟩ = false := by go_simp
 have kt1 : w2.frozen? ⟨w.heap.size + 1, 1, none⟩ = false := by go_simp
 have kt2 : w2.frozen? ⟨w.heap.size + 1, 2, none⟩ = false := by go_simp
 clear hb2 hown2 hc1 hf1 hc2 hf2
 have HR0 := Lib.hid (show runN ⟨(p, q), L⟩ (X.take 0) = (⟨(p, q), L⟩, 0) from rfl)
 go_wp2_with fail
 go_loopw [7, 28] (fun nn kk wr => ∃ (i m : Nat) (dp dq : Int) (M : List (Int × Int)) (a3 : Option Addr) (c3 : Nat), i ≤ X.length ∧ Hid (runN ⟨(p, q), L⟩ (X.take i) = (⟨(dp, dq), M⟩, m)) ∧ nn = .int .i64 m ∧ kk = .int .i64 i ∧ m ≤ i ∧ wr.cell? ⟨w2.heap.size, 0, none⟩ = some (.int .i64 dp) ∧ wr.cell? ⟨w2.heap.size, 1, none⟩ = some (.int .i64 dq) ∧ wr.cell? ⟨w2.heap.size, 2, none⟩ = some (.slice a3 M.length c3) ∧ wr.frozen? ⟨w2.heap.size, 0, none⟩ = false ∧ wr.frozen? ⟨w2.heap.size, 1, none⟩ = false ∧ wr.frozen? ⟨w2.heap.size, 2, none⟩ = false ∧
     wr.cell? ⟨w.heap.size + 1, 0, none⟩ = some (.int .i64 0) ∧ wr.cell? ⟨w.heap.size + 1, 1, none⟩ = some (.int .i64 0) ∧ wr.cell? ⟨w.heap.size + 1, 2, none⟩ = some (.slice none 0 0) ∧ wr.frozen? ⟨w.heap.size + 1, 0, none⟩ = false ∧ wr.frozen? ⟨w.heap.size + 1, 1, none⟩ = false ∧ wr.frozen? ⟨w.heap.size + 1, 2, none⟩ = false ∧
     IsPairs (w.heap.size + 2) wr.heap.size wr (.slice a3 M.length c3) M ∧ w2.heap.size < wr.heap.size ∧ Below w.heap.size w wr) (fun _ kk _ => X.length - (intOf kk).toNat)
 case atStart =>
   refine ⟨0, 0, p, q, L, a2, c2, Nat.zero_le _, HR0, rfl, rfl, Nat.le_refl _, by go_simp, by go_simp, by go_simp, by go_simp, by go_simp, by go_simp, by go_simp, by go_simp, by go_simp, by go_simp, by go_simp, by go_simp, ?_, by simp <;> omega, ?_⟩
   · refine IsPairs.mono (B := w1.heap.size) (C := w2.heap.size) ?_ zO (by simp) (Nat.le_refl _)
     exact HI2.out.below ((Below.refl _ _).alloc (Nat.le_refl _) _) (Nat.le_refl _)
   · exact HB2.out.alloc zO _
 case round =>
   obtain ⟨i, m, dp, dq, M, a3, c3, hi, HRN, rfl, rfl, hmi, b0, b1, b2, g0, g1, g2, r0, r1, r2, t0, t1, t2, hI, hzH, hB⟩ := hrel
   by_cases hlt : i < X.length
   · have hd0 : deskN ⟨(p, q), L⟩ = true := HD.out
     have hdi : deskN ⟨(dp, dq), M⟩ = true := by have := runN_desk (X.take i) hd0; rwa [HRN.out] at this
     have hM8 : M.length ≤ 8 := (deskN_of hdi).2.1
     obtain ⟨⟨kx, ax, bx⟩, hx⟩ : ∃ x, X[i]? = some x := ⟨X[i], by simp [hlt]⟩
     obtain ⟨_, _, hve, _, hks⟩ := id K.out
     cases hve
     rcases hks with rfl | ⟨g, off, rfl, _, hg2, hc, _⟩
     · simp at hlt
     have x0 : wr.cell? ⟨g, off + i * 3, none⟩ = some (.int .i64 kx) := (hB.cell (p := ⟨g, off + i * 3, none⟩) (by show g < _; omega)).trans (hc i _ hx).1
     have x1 : wr.cell? ⟨g, off + i * 3 + 1, none⟩ = some (.int .i64 ax) := (hB.cell (p := ⟨g, off + i * 3 + 1, none⟩) (by show g < _; omega)).trans (hc i _ hx).2.1
     have x2 : wr.cell? ⟨g, off + i * 3 + 2, none⟩ = some (.int .i64 bx) := (hB.cell (p := ⟨g, off + i * 3 + 2, none⟩) (by show g < _; omega)).trans (hc i _ hx).2.2
     have hgr : g < wr.heap.size := by have := hB.size; omega
     have HNX := runN_take (d := ⟨(p, q), L⟩) hx
     rw [HRN.out] at HNX
     dsimp only at HNX
     have hcall := fun (W : World) (D D' : Nat) (hI' : IsPairs D D' W (.slice a3 M.length c3) M) => implDo_any D D' dp dq kx ax bx M _ W hI' zO
     unfold DeskRet at hcall
     rw [doR_yes hdi] at hcall
     have hii : (i : Int) < (X.length : Int) := by omega
     have i0 : (0 : Int) ≤ (i : Int) := by omega
     obtain ⟨rp, rq, R, ok, hres⟩ : ∃ rp rq R ok, doN ⟨(dp, dq), M⟩ ⟨kx, ax, bx⟩ = (⟨(rp, rq), R⟩, ok) := ⟨_, _, _, _, rfl⟩
     rw [hres] at HNX hcall
     dsimp only at HNX hcall
     have HI := Lib.hid hI
     have HB := Lib.hid hB
     have HC := Lib.hid hcall
     have HNX := Lib.hid HNX
     have W1 : IntKind.i64.wrap ((i : Int) + 1) = (i : Int) + 1 := by rw [IntKind.wrap_i64]; omega
     have W2 : IntKind.i64.wrap ((m : Int) + 1) = (m : Int) + 1 := by rw [IntKind.wrap_i64]; omega
     have hwz := hB.size
     clear hI hB hcall hres hc hx hd0 hdi
     go_wp2_with fail
     refine (HC.out _ _ _ (HI.out.below ((Below.refl _ _).alloc (Nat.le_refl _) _) (Nat.le_refl _))).mono ?_
     rintro e w5 ⟨a5, c5, rfl, hI5, hb5⟩
     have hz5 := hb5.size
     simp at hz5
     have hzH5 : w2.heap.size < w5.heap.size := by omega
     have hzc : w.heap.size + 1 < wr.heap.size := by omega
     have hzc5 : w.heap.size + 1 < w5.heap.size := by omega
     have HB5 := Lib.hid (show Below wr.heap.size wr w5 from ((Below.refl _ _).alloc (Nat.le_refl _) _).trans (hb5.mono (by simp)))
     have HI5 := Lib.hid (hI5.mono (show wr.heap.size ≤ _ by simp) (Nat.le_refl _) (Nat.le_refl _))
     have b0' := cell_belowP HB5.out b0
     have b1' := cell_belowP HB5.out b1
     have b2' := cell_belowP HB5.out b2
     have g0' := (HB5.out.frozen (p := ⟨w2.heap.size, 0, none⟩) hzH).trans g0
     have g1' := (HB5.out.frozen (p := ⟨w2.heap.size, 1, none⟩) hzH).trans g1
     have g2' := (HB5.out.frozen (p := ⟨w2.heap.size, 2, none⟩) hzH).trans g2
     have r0' := cell_belowP HB5.out r0
     have r1' := cell_belowP HB5.out r1
     have r2' := cell_belowP HB5.out r2
     have t0' := (HB5.out.frozen (p := ⟨w.heap.size + 1, 0, none⟩) hzc).trans t0
     have t1' := (HB5.out.frozen (p := ⟨w.heap.size + 1, 1, none⟩) hzc).trans t1
     have t2' := (HB5.out.frozen (p := ⟨w.heap.size + 1, 2, none⟩) hzc).trans t2
     clear hI5 hb5 b0 b1 b2 g0 g1 g2 r0 r1 r2 t0 t1 t2
     cases ok with
     | true =>
       have HNY : Hid (runN ⟨(p, q), L⟩ (X.take (i + 1)) = (⟨(rp, rq), R⟩, m + 1)) := Lib.hid (by simpa using HNX.out)
       go_wp2
       go_roundw
       case rel =>
         refine ⟨i + 1, m + 1, rp, rq, R, a5, c5, by omega, HNY, congrArg (Value.int .i64) zO, congrArg (Value.int .i64) zO, by omega, by go_simp, by go_simp, by go_simp, by go_simp, by go_simp, by go_simp, by go_simp, by go_simp, by go_simp, by go_simp, by go_simp, by go_simp, ?_, by simp <;> omega, ?_⟩
         · exact ((((HI5.out.set (p := ⟨w2.heap.size, 0, none⟩) hzH _).set (p := ⟨w2.heap.size, 1, none⟩) hzH _).set (p := ⟨w2.heap.size, 2, none⟩) hzH _).allocd _).mono zO (by simp) (Nat.le_refl _)
         · exact ((((HB.out.trans (HB5.out.mono zO)).setCell zs _).setCell zs _).setCell zs _).alloc zs _
       case measure => simp [intOf]; omega
     | false =>
       have HNY : Hid (runN ⟨(p, q), L⟩ (X.take (i + 1)) = (⟨(rp, rq), R⟩, m)) := Lib.hid (by simpa using HNX.out)
       go_wp2
       go_roundw
       case rel =>
         refine ⟨i + 1, m, rp, rq, R, a5, c5, by omega, HNY, rfl, congrArg (Value.int .i64) zO, by omega, by go_simp, by go_simp, by go_simp, by go_simp, by go_simp, by go_simp, by go_simp, by go_simp, by go_simp, by go_simp, by go_simp, by go_simp, ?_, by simp <;> omega, ?_⟩
         · exact ((((HI5.out.set (p := ⟨w2.heap.size, 0, none⟩) hzH _).set (p := ⟨w2.heap.size, 1, none⟩) hzH _).set (p := ⟨w2.heap.size, 2, none⟩) hzH _).allocd _).mono zO (by simp) (Nat.le_refl _)
         · exact ((((HB.out.trans (HB5.out.mono zO)).setCell zs _).setCell zs _).setCell zs _).alloc zs _
       case measure => simp [intOf]; omega
   · obtain rfl : i = X.length := by omega
     have hli2 : ¬ ((X.length : Int) < (X.length : Int)) := by omega
     have HB := Lib.hid hB
     have HI := Lib.hid hI
     clear hB hI
     go_wp2_with fail
     refine bodyPost_ret (v := .tuple #[.agg #[.int .i64 dp, .int .i64 dq, .slice a3 M.length c3], .int .i64 (m : Int)]) (by simp [results, Tryz.results16, go_sem]; go_simp) rfl ?_
     unfold RanS
     rw [runR_yes HD.out hl, show runN ⟨(p, q), L⟩ X = (⟨(dp, dq), M⟩, m) by have := HRN.out; rwa [List.take_length] at this]
     refine ⟨a3, c3, rfl, ?_, ?_⟩
     · exact ((((HI.out.set (p := ⟨w.heap.size + 1, 0, none⟩) (by show w.heap.size + 1 < _; omega) _).set (p := ⟨w.heap.size + 1, 1, none⟩) (by show w.heap.size + 1 < _; omega) _).set (p := ⟨w.heap.size + 1, 2, none⟩) (by show w.heap.size + 1 < _; omega) _)).mono zO (by simp) (Nat.le_refl _)
     · exact ((HB.out.setCell zs _).setCell zs _).setCell zs _
theorem implRun_any (B C B' C' : Nat) (p q : Int) (L : List (Int × Int)) (X : List DeedN) (v u : Value) (w : World) (h : IsPairs B C w v L) (hn : L.length ≤ 1048600) (k : IsDeeds B' C' w u X) (hm : X.length ≤ 1048600) : Calls Tryz.prog 16 #[.agg #[.int .i64 p, .int .i64 q, v], u] w (RanS ⟨(p, q), L⟩ X w) := by
 cases hd : deskN ⟨(p, q), L⟩ with
 | false => exact implRun_no B C B' C' p q L X v u w h hn k hm hd
 | true =>
   rcases Nat.lt_or_ge 40 X.length with hl | hl
   · exact implRun_long B C B' C' p q L X v u w h hn k hm hd hl
   · exact implRun_yes B C B' C' p q L X v u w h hn k hm hd hl
end
end Go.Proofs.YtblphilcmfabkaaGreatDoor
