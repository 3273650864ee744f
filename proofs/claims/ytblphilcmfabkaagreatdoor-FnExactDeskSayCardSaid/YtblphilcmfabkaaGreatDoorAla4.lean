/- Contracts and laws that the statement's proof stands on, one text behind the other. -/
import Derived.Test.YtblphilcmfabkaaGreatDoorAla3
import Derived.Test.YtblphilcmfabkaaGreatDoorHwTalkAnswer

namespace Go.Proofs.YtblphilcmfabkaaGreatDoor
section
open Go.RowKit Go.Shelf
def okLn : ByteArray := ⟨#[111, 107]⟩
def notLn : ByteArray := ⟨#[110, 111, 116]⟩
def lineV (d : DeskN) (l : List UInt8) : DeskN × ByteArray := if deskN d = true then (match readN l with
 | some x => ((doN d x).1, if (doN d x).2 = true then okLn else notLn)
 | none => (d, ansV d.now.1 d.now.2 l)) else (⟨(0, 0), []⟩, ⟨#[]⟩)
theorem lineV_no {d : DeskN} {l : List UInt8} (h : deskN d = false) : lineV d l = (⟨(0, 0), []⟩, ⟨#[]⟩) := by unfold lineV; rw [if_neg (by simp [h])]
theorem lineV_deed {d : DeskN} {l : List UInt8} {x : DeedN} {d' : DeskN} {ok : Bool} (h : deskN d = true) (hr : readN l = some x) (hd : doN d x = (d', ok)) : lineV d l = (d', if ok = true then okLn else notLn) := by unfold lineV; rw [if_pos h, hr]; simp only [hd]
theorem lineV_ask {d : DeskN} {l : List UInt8} (h : deskN d = true) (hr : readN l = none) : lineV d l = (d, ansV d.now.1 d.now.2 l) := by unfold lineV; rw [if_pos h, hr]
def LineS (d : DeskN) (l : List UInt8) (w : World) (e : Ending) (w' : World) : Prop :=
 ∃ a c, e = .returned (.tuple #[.agg #[.int .i64 (lineV d l).1.now.1, .int .i64 (lineV d l).1.now.2, .slice a (lineV d l).1.past.length c], .string (lineV d l).2]) ∧ IsPairs w.heap.size w'.heap.size w' (.slice a (lineV d l).1.past.length c) (lineV d l).1.past ∧ Below w.heap.size w w'
theorem small_of {n : Int} (h : numB n = true) : Small n := by
 simp only [numB, decide_eq_true_eq] at h
 exact ⟨by omega, by omega⟩
theorem desk_small {p q : Int} {L : List (Int × Int)} (h : deskN ⟨(p, q), L⟩ = true) : Small p ∧ Small q := by
 have := (deskN_of h).1
 have hp : numB p = true ∧ numB q = true := by simpa [pairN, pairB] using this
 exact ⟨small_of hp.1, small_of hp.2⟩
set_option maxRecDepth 100000 in
set_option maxHeartbeats 2000000 in
theorem implLine_no (B C : Nat) (p q : Int) (L : List (Int × Int)) (v : Value) (s : ByteArray) (w : World) (h : IsPairs B C w v L) (hn : L.length ≤ 1048600) (hd : deskN ⟨(p, q), L⟩ = false) :
   Calls Tryz.prog 14 #[.agg #[.int .i64 p, .int .i64 q, v], .string s] w (LineS ⟨(p, q), L⟩ s.data.toList w) := by
 obtain ⟨a, cap, rfl, hC, hs0⟩ := id h
 clear hs0
 have H := Lib.hid h
 have HD := Lib.hid hd
 clear h hd
 go_enter Tryz.func14, Tryz.ntmps14
 go_wp2_with fail
 refine (implDeskOk_any B C p q _ _ _ (H.out.below (show Below w.heap.size w _ by exact zb) hC) hn).mono ?_
 rintro e w1 ⟨rfl, hb1⟩
 obtain ⟨hc1, hf1⟩ := bcell hb1
 have hz1 := hb1.size
 simp at hz1
 have hz1a : w.heap.size < w1.heap.size := by omega
 have hz1b : w.heap.size + 1 < w1.heap.size := by omega
 have HB1 := Lib.hid (show Below w.heap.size w w1 by exact zb)
 rw [HD.out]
 clear hb1
 go_wp2_with fail
 refine bodyPost_ret (v := .tuple #[.agg #[.int .i64 0, .int .i64 0, .slice none 0 0], .string ⟨#[]⟩]) (by simp [results, Tryz.results14, go_sem]; go_simp) rfl ?_
 unfold LineS
 rw [lineV_no HD.out]
 refine ⟨none, 0, rfl, IsPairs.mono (IsPairs.empty w.heap.size _ none 0) (Nat.le_refl _) (Nat.le_refl _) (Nat.le_refl _), ?_⟩
 exact (((HB1.out.setCell zs _).setCell zs _).setCell zs _)
set_option maxRecDepth 100000 in
set_option maxHeartbeats 4000000 in
theorem implLine_deed (B C : Nat) (p q : Int) (L : List (Int × Int)) (v : Value) (s : ByteArray) (w : World) (h : IsPairs B C w v L) (hn : L.length ≤ 1048600) (hs : s.size ≤ 1048600) (hd : deskN ⟨(p, q), L⟩ = true) (k x y : Int) (hr : readN s.data.toList = some ⟨k, x, y⟩) (ht : PowTab w) (he : Errs w) :
   Calls Tryz.prog 14 #[.agg #[.int .i64 p, .int .i64 q, v], .string s] w (LineS ⟨(p, q), L⟩ s.data.toList w) := by
 have hrd := fun W hT hE => implDeedRead_any s W zO hT hE
 rw [deedV_some hr] at hrd
 have HRD := Lib.hid hrd
 have HT := Lib.hid ht
 have HE := Lib.hid he
 have hdo := fun (W : World) B C v h => implDo_any B C p q k x y L v W h hn
 rw [doR_yes hd] at hdo
 obtain ⟨⟨⟨p', q'⟩, L'⟩, ok, hres⟩ : ∃ d ok, doN ⟨(p, q), L⟩ ⟨k, x, y⟩ = (d, ok) := ⟨_, _, rfl⟩
 rw [hres] at hdo
 have HDO := Lib.hid hdo
 have HV := Lib.hid (lineV_deed hd hr hres)
 clear hrd ht he hdo hres hr
 obtain ⟨a, cap, rfl, hC, hs0⟩ := id h
 clear hs0
 have H := Lib.hid h
 have HD := Lib.hid hd
 clear h hd
 go_enter Tryz.func14, Tryz.ntmps14
 go_wp2_with fail
 refine (implDeskOk_any B C p q _ _ _ (H.out.below (show Below w.heap.size w _ by exact zb) hC) hn).mono ?_
 rintro e w1 ⟨rfl, hb1⟩
 obtain ⟨hc1, hf1⟩ := bcell hb1
 have hz1 := hb1.size
 simp at hz1
 have hz1a : w.heap.size < w1.heap.size := by omega
 have hz1b : w.heap.size + 1 < w1.heap.size := by omega
 have HB1 := Lib.hid (show Below w.heap.size w w1 by exact zb)
 rw [HD.out]
 have bx1_0 : w1.cell? ⟨w.heap.size, 0, none⟩ = some (.int .i64 p) := by go_simp
 have bx1_1 : w1.cell? ⟨w.heap.size, 1, none⟩ = some (.int .i64 q) := by go_simp
 have bx1_2 : w1.cell? ⟨w.heap.size, 2, none⟩ = some (.slice a L.length cap) := by go_simp
 have rs1_0 : w1.cell? ⟨w.heap.size + 1, 0, none⟩ = some (.int .i64 0) := by go_simp
 have rf1_0 : w1.frozen? ⟨w.heap.size + 1, 0, none⟩ = false := by go_simp
 have rs1_1 : w1.cell? ⟨w.heap.size + 1, 1, none⟩ = some (.int .i64 0) := by go_simp
 have rf1_1 : w1.frozen? ⟨w.heap.size + 1, 1, none⟩ = false := by go_simp
 have rs1_2 : w1.cell? ⟨w.heap.size + 1, 2, none⟩ = some (.slice none 0 0) := by go_simp
 have rf1_2 : w1.frozen? ⟨w.heap.size + 1, 2, none⟩ = false := by go_simp
 clear hb1 hc1 hf1
 go_wp2_with fail
 refine (HRD.out _ (HT.out.below HB1.out (Nat.le_refl _)) (HE.out.below HB1.out (Nat.le_refl _))).mono ?_
 rintro e w2 ⟨rfl, hb2⟩
 dsimp only
 obtain ⟨hc2, hf2⟩ := bcell hb2
 have hz2 := hb2.size
 have hz2a : w.heap.size < w2.heap.size := by omega
 have hz2b : w.heap.size + 1 < w2.heap.size := by omega
 have HB2 := Lib.hid (HB1.out.trans (hb2.mono zO))
 have bx2_0 : w2.cell? ⟨w.heap.size, 0, none⟩ = some (.int .i64 p) := by go_simp
 have bx2_1 : w2.cell? ⟨w.heap.size, 1, none⟩ = some (.int .i64 q) := by go_simp
 have bx2_2 : w2.cell? ⟨w.heap.size, 2, none⟩ = some (.slice a L.length cap) := by go_simp
 have rs2_0 : w2.cell? ⟨w.heap.size + 1, 0, none⟩ = some (.int .i64 0) := by go_simp
 have rf2_0 : w2.frozen? ⟨w.heap.size + 1, 0, none⟩ = false := by go_simp
 have rs2_1 : w2.cell? ⟨w.heap.size + 1, 1, none⟩ = some (.int .i64 0) := by go_simp
 have rf2_1 : w2.frozen? ⟨w.heap.size + 1, 1, none⟩ = false := by go_simp
 have rs2_2 : w2.cell? ⟨w.heap.size + 1, 2, none⟩ = some (.slice none 0 0) := by go_simp
 have rf2_2 : w2.frozen? ⟨w.heap.size + 1, 2, none⟩ = false := by go_simp
 clear hb2 hc2 hf2
 go_wp2_with fail
 refine (HDO.out _ _ _ _ (H.out.below (show Below w.heap.size w _ from HB2.out.alloc zO _) hC)).mono ?_
 rintro e w3 ⟨a3, c3, rfl, hI3, hb3⟩
 dsimp only at hI3 ⊢
 obtain ⟨hc3, hf3⟩ := bcell hb3
 have hz3 := hb3.size
 simp at hz3
 simp only [World.size_alloc] at hI3
 have hz3a : w.heap.size < w3.heap.size := by omega
 have hz3b : w.heap.size + 1 < w3.heap.size := by omega
 have HB3 := Lib.hid (show Below w.heap.size w w3 from (HB2.out.alloc zO _).trans (hb3.mono (by simp; omega)))
 have bx3_0 : w3.cell? ⟨w.heap.size, 0, none⟩ = some (.int .i64 p) := by go_simp
 have bx3_1 : w3.cell? ⟨w.heap.size, 1, none⟩ = some (.int .i64 q) := by go_simp
 have bx3_2 : w3.cell? ⟨w.heap.size, 2, none⟩ = some (.slice a L.length cap) := by go_simp
 have rs3_0 : w3.cell? ⟨w.heap.size + 1, 0, none⟩ = some (.int .i64 0) := by go_simp
 have rf3_0 : w3.frozen? ⟨w.heap.size + 1, 0, none⟩ = false := by go_simp
 have rs3_1 : w3.cell? ⟨w.heap.size + 1, 1, none⟩ = some (.int .i64 0) := by go_simp
 have rf3_1 : w3.frozen? ⟨w.heap.size + 1, 1, none⟩ = false := by go_simp
 have rs3_2 : w3.cell? ⟨w.heap.size + 1, 2, none⟩ = some (.slice none 0 0) := by go_simp
 have rf3_2 : w3.frozen? ⟨w.heap.size + 1, 2, none⟩ = false := by go_simp
 have HI3 := Lib.hid hI3
 clear hb3 hc3 hf3 hI3
 cases ok with
 | false =>
   go_wp2_with fail
   refine bodyPost_ret (v := .tuple #[.agg #[.int .i64 p', .int .i64 q', .slice a3 L'.length c3], .string notLn]) (by simp [results, Tryz.results14, go_sem]; go_simp; rfl) rfl ?_
   have hI4 := pairs_set3 (b := w.heap.size + 1) HI3.out zO (.int .i64 p') (.int .i64 q') (.slice a3 L'.length c3)
   unfold LineS
   rw [HV.out]
   refine ⟨a3, c3, rfl, (hI4.below ((Below.refl _ _).alloc (Nat.le_refl _) _) (by simp [set3, World.setCell])).mono (by show w.heap.size ≤ _; omega) (by simp [World.setCell]) (Nat.le_refl _), ?_⟩
   exact (((HB3.out.setCell zs _).setCell zs _).setCell zs _).alloc (by simp [World.setCell]; omega) _
 | true =>
   go_wp2_with fail
   refine bodyPost_ret (v := .tuple #[.agg #[.int .i64 p', .int .i64 q', .slice a3 L'.length c3], .string okLn]) (by simp [results, Tryz.results14, go_sem]; go_simp; rfl) rfl ?_
   have hI4 := pairs_set3 (b := w.heap.size + 1) HI3.out zO (.int .i64 p') (.int .i64 q') (.slice a3 L'.length c3)
   unfold LineS
   rw [HV.out]
   refine ⟨a3, c3, rfl, (hI4.below ((Below.refl _ _).alloc (Nat.le_refl _) _) (by simp [set3, World.setCell])).mono (by show w.heap.size ≤ _; omega) (by simp [World.setCell]) (Nat.le_refl _), ?_⟩
   exact (((HB3.out.setCell zs _).setCell zs _).setCell zs _).alloc (by simp [World.setCell]; omega) _
end
section
open Go.RowKit Go.Shelf
theorem arrL (t : Array Value) (h : t.size = 39) : t = #[t.getD 0 undef, t.getD 1 undef, t.getD 2 undef, t.getD 3 undef, t.getD 4 undef, t.getD 5 undef, t.getD 6 undef, t.getD 7 undef, t.getD 8 undef, t.getD 9 undef, t.getD 10 undef, t.getD 11 undef, t.getD 12 undef, t.getD 13 undef, t.getD 14 undef, t.getD 15 undef, t.getD 16 undef, t.getD 17 undef, t.getD 18 undef, t.getD 19 undef, t.getD 20 undef, t.getD 21 undef, t.getD 22 undef, t.getD 23 undef, t.getD 24 undef, t.getD 25 undef, t.getD 26 undef, t.getD 27 undef, t.getD 28 undef, t.getD 29 undef, t.getD 30 undef, t.getD 31 undef, t.getD 32 undef, t.getD 33 undef, t.getD 34 undef, t.getD 35 undef, t.getD 36 undef, t.getD 37 undef, t.getD 38 undef] := by
 apply Array.ext
 · simpa using h
 · intro i h1 h2
   have h3 : i < 39 := by omega
   rcases (show i = 0 ∨ i = 1 ∨ i = 2 ∨ i = 3 ∨ i = 4 ∨ i = 5 ∨ i = 6 ∨ i = 7 ∨ i = 8 ∨ i = 9 ∨ i = 10 ∨ i = 11 ∨ i = 12 ∨ i = 13 ∨ i = 14 ∨ i = 15 ∨ i = 16 ∨ i = 17 ∨ i = 18 ∨ i = 19 ∨ i = 20 ∨ i = 21 ∨ i = 22 ∨ i = 23 ∨ i = 24 ∨ i = 25 ∨ i = 26 ∨ i = 27 ∨ i = 28 ∨ i = 29 ∨ i = 30 ∨ i = 31 ∨ i = 32 ∨ i = 33 ∨ i = 34 ∨ i = 35 ∨ i = 36 ∨ i = 37 ∨ i = 38 by omega) with rfl | rfl | rfl | rfl | rfl | rfl | rfl | rfl | rfl | rfl | rfl | rfl | rfl | rfl | rfl | rfl | rfl | rfl | rfl | rfl | rfl | rfl | rfl | rfl | rfl | rfl | rfl | rfl | rfl | rfl | rfl | rfl | rfl | rfl | rfl | rfl | rfl | rfl | rfl <;> simp [Array.getD_eq_getD_getElem?, h1]
theorem actL (t : Array Value) (h : t.size = 39) (v4 : Value) (v5 : Value) (h4 : t.getD 4 undef = v4) (h5 : t.getD 5 undef = v5) : ∃ u0 u1 u2 u3 u6 u7 u8 u9 u10 u11 u12 u13 u14 u15 u16 u17 u18 u19 u20 u21 u22 u23 u24 u25 u26 u27 u28 u29 u30 u31 u32 u33 u34 u35 u36 u37 u38 : Value, t = #[u0, u1, u2, u3, v4, v5, u6, u7, u8, u9, u10, u11, u12, u13, u14, u15, u16, u17, u18, u19, u20, u21, u22, u23, u24, u25, u26, u27, u28, u29, u30, u31, u32, u33, u34, u35, u36, u37, u38] :=
 ⟨_, _, _, _, _, _, _, _, _, _, _, _, _, _, _, _, _, _, _, _, _, _, _, _, _, _, _, _, _, _, _, _, _, _, _, _, _, by rw [← h4, ← h5]; exact arrL t h⟩
def lineP (B bx : Nat) (p q : Int) (a : Option Addr) (L : List (Int × Int)) (cap : Nat) (s ans : ByteArray) (j : Nat) (v : Value) (w : World) : Prop :=
 match j with
 | 0 => v = .pointer (some ⟨bx, 0, none⟩)
 | 1 => v = .agg #[.int .i64 p, .int .i64 q]
 | 2 => v = .pointer (some ⟨bx, 2, none⟩)
 | 3 => v = .slice a L.length cap
 | 4 => ∃ a' c', v = .agg #[.int .i64 p, .int .i64 q, .slice a' L.length c'] ∧ w.ownsRow B 29 2 (.slice a' L.length c') L.length (pairCells L)
 | 5 => v = .agg #[.int .i64 p, .int .i64 q, .slice a L.length cap]
 | 6 => v = .string s
 | _ => v = .string ans
theorem lineP_mono {B R : Nat} (hR : R < B) (bx : Nat) (p q : Int) (a : Option Addr) (L : List (Int × Int)) (cap : Nat) (s ans : ByteArray) (j : Nat) (v : Value) (w w' : World) (hg : w.grownBy w' (some R)) (h : lineP B bx p q a L cap s ans j v w) : lineP B bx p q a L cap s ans j v w' := by
 unfold lineP at *
 split at h
 all_goals first | exact h | skip
 obtain ⟨a', c', e, h1⟩ := h
 exact ⟨a', c', e, own_grows h1 hg hR⟩
def lineG (W : World) (R : Nat) (p q : Int) (L : List (Int × Int)) (l : Array Bool) (w : World) : Prop :=
 W.grownBy w (some R) ∧ ∃ x y z, (w.cell? ⟨R, 0, none⟩ = some x ∧ w.cell? ⟨R, 1, none⟩ = some y ∧ w.cell? ⟨R, 2, none⟩ = some z) ∧ (w.frozen? ⟨R, 0, none⟩ = false ∧ w.frozen? ⟨R, 1, none⟩ = false ∧ w.frozen? ⟨R, 2, none⟩ = false) ∧
   (l.getD 8 false = true → ∃ a' c', x = .int .i64 p ∧ y = .int .i64 q ∧ z = .slice a' L.length c' ∧ w.ownsRow W.heap.size 29 2 (.slice a' L.length c') L.length (pairCells L))
theorem lineG_same {W w : World} {R i : Nat} {p q : Int} {L : List (Int × Int)} {l : Array Bool} (h : lineG W R p q L l w) (hi : i ≠ 8) : lineG W R p q L (l.setIfInBounds i true) w := by
 unfold lineG at *
 rw [getD_set_other _ hi]
 exact h
theorem lineG_call {W w w' : World} {R i : Nat} {p q : Int} {L : List (Int × Int)} {l : Array Bool} (h : lineG W R p q L l w) (hR : R < W.heap.size) (hi : i ≠ 8) (hb : Below w.heap.size w w') : lineG W R p q L (l.setIfInBounds i true) w' := by
 obtain ⟨hg, x, y, z, ⟨c0, c1, c2⟩, ⟨f0, f1, f2⟩, h8⟩ := h
 have hRw : R < w.heap.size := Nat.lt_of_lt_of_le hR hg.size
 obtain ⟨hc, hf⟩ := bcell hb
 refine ⟨gr_below hg hb, x, y, z, ⟨(hc R 0 hRw).trans c0, (hc R 1 hRw).trans c1, (hc R 2 hRw).trans c2⟩, ⟨(hf R 0 hRw).trans f0, (hf R 1 hRw).trans f1, (hf R 2 hRw).trans f2⟩, fun h => ?_⟩
 rw [getD_set_other _ hi] at h
 obtain ⟨a', c', e0, e1, e2, ho⟩ := h8 h
 exact ⟨a', c', e0, e1, e2, own_keeps ho hb⟩
theorem lineG_put {W w : World} {R : Nat} {p q : Int} {L : List (Int × Int)} {l : Array Bool} {a' : Option Addr} {c' : Nat} (h : lineG W R p q L l w) (hR : R < W.heap.size) (ho : w.ownsRow W.heap.size 29 2 (.slice a' L.length c') L.length (pairCells L)) :
   w.grownBy (((w.setCell ⟨R, 0, none⟩ (.int .i64 p)).setCell ⟨R, 1, none⟩ (.int .i64 q)).setCell ⟨R, 2, none⟩ (.slice a' L.length c')) (some R) ∧
   lineG W R p q L (l.setIfInBounds 8 true) (((w.setCell ⟨R, 0, none⟩ (.int .i64 p)).setCell ⟨R, 1, none⟩ (.int .i64 q)).setCell ⟨R, 2, none⟩ (.slice a' L.length c')) := by
 obtain ⟨hg, x, y, z, ⟨c0, c1, c2⟩, ⟨f0, f1, f2⟩, _⟩ := h
 have hgr : w.grownBy (((w.setCell ⟨R, 0, none⟩ (.int .i64 p)).setCell ⟨R, 1, none⟩ (.int .i64 q)).setCell ⟨R, 2, none⟩ (.slice a' L.length c')) (some R) :=
   ⟨rfl, rfl, rfl, by simp [World.setCell], fun j hj hne => by
     have hne' : j ≠ R := fun e => hne (by rw [e])
     rw [Below.heap_setCell _ _ _ _ hne', Below.heap_setCell _ _ _ _ hne', Below.heap_setCell _ _ _ _ hne']⟩
 have ne : ∀ (i j : Nat), i ≠ j → (⟨R, i, none⟩ : Addr) ≠ ⟨R, j, none⟩ := fun i j h e => by injection e with _ e; exact h e
 refine ⟨hgr, gr_trans hg hgr, .int .i64 p, .int .i64 q, .slice a' L.length c', ⟨?_, ?_, ?_⟩, ⟨?_, ?_, ?_⟩, fun _ => ⟨a', c', rfl, rfl, rfl, own_grows ho hgr hR⟩⟩
 · rw [World.cell?_setCell_other _ _ _ _ (ne _ _ zd), World.cell?_setCell_other _ _ _ _ (ne _ _ zd), World.cell?_setCell_same' _ _ _ (by rw [c0]; rfl)]
 · rw [World.cell?_setCell_other _ _ _ _ (ne _ _ zd), World.cell?_setCell_same' _ _ _ (by rw [World.cell?_setCell_other _ _ _ _ (ne _ _ zd), c1]; rfl)]
 · rw [World.cell?_setCell_same' _ _ _ (by rw [World.cell?_setCell_other _ _ _ _ (ne _ _ zd), World.cell?_setCell_other _ _ _ _ (ne _ _ zd), c2]; rfl)]
 · rw [World.frozen?_setCell, World.frozen?_setCell, World.frozen?_setCell]; exact f0
 · rw [World.frozen?_setCell, World.frozen?_setCell, World.frozen?_setCell]; exact f1
 · rw [World.frozen?_setCell, World.frozen?_setCell, World.frozen?_setCell]; exact f2
end
section
open Go.RowKit Go.Shelf
set_option linter.unusedSimpArgs false in
set_option maxRecDepth 100000 in
set_option maxHeartbeats 16000000 in
theorem implLine_ask (B C : Nat) (p q : Int) (L : List (Int × Int)) (v : Value) (s : ByteArray) (w : World) (h : IsPairs B C w v L) (hn : L.length ≤ 1048600) (hs : s.size ≤ 1048600) (hd : deskN ⟨(p, q), L⟩ = true) (hr : readN s.data.toList = none) (ht : PowTab w) (he : Errs w) :
   Calls Tryz.prog 14 #[.agg #[.int .i64 p, .int .i64 q, v], .string s] w (LineS ⟨(p, q), L⟩ s.data.toList w) := by
 have hen1 : ∀ (args : Array Value) (w : World), (callFunc 50 args).run Tryz.prog w = .ok (.enter 50 args) w := enters_of Tryz.func50 (by kernel_rfl) rfl
 have hen2 : ∀ (args : Array Value) (w : World), (callFunc 51 args).run Tryz.prog w = .ok (.enter 51 args) w := enters_of Tryz.func51 (by kernel_rfl) rfl
 have hrd := fun W hT hE => implDeedRead_any s W zO hT hE
 rw [deedV_none hr] at hrd
 have HRD := Lib.hid hrd
 have HT := Lib.hid ht
 have HE := Lib.hid he
 have hsm := desk_small hd
 have HV := Lib.hid (lineV_ask hd hr)
 clear hrd ht he hr
 obtain ⟨a, cap, rfl, hC, hs0⟩ := id h
 clear hs0
 have H := Lib.hid h
 have HD := Lib.hid hd
 clear h hd
 go_enter Tryz.func14, Tryz.ntmps14
 go_wp2_with fail
 refine (implDeskOk_any B C p q _ _ _ (H.out.below (show Below w.heap.size w _ by exact zb) hC) hn).mono ?_
 rintro e w1 ⟨rfl, hb1⟩
 obtain ⟨hc1, hf1⟩ := bcell hb1
 have hz1 := hb1.size
 simp at hz1
 have hz1a : w.heap.size < w1.heap.size := by omega
 have hz1b : w.heap.size + 1 < w1.heap.size := by omega
 have HB1 := Lib.hid (show Below w.heap.size w w1 by exact zb)
 rw [HD.out]
 have bx1_0 : w1.cell? ⟨w.heap.size, 0, none⟩ = some (.int .i64 p) := by go_simp
 have bx1_1 : w1.cell? ⟨w.heap.size, 1, none⟩ = some (.int .i64 q) := by go_simp
 have bx1_2 : w1.cell? ⟨w.heap.size, 2, none⟩ = some (.slice a L.length cap) := by go_simp
 have rs1_0 : w1.cell? ⟨w.heap.size + 1, 0, none⟩ = some (.int .i64 0) := by go_simp
 have rf1_0 : w1.frozen? ⟨w.heap.size + 1, 0, none⟩ = false := by go_simp
 have rs1_1 : w1.cell? ⟨w.heap.size + 1, 1, none⟩ = some (.int .i64 0) := by go_simp
 have rf1_1 : w1.frozen? ⟨w.heap.size + 1, 1, none⟩ = false := by go_simp
 have rs1_2 : w1.cell? ⟨w.heap.size + 1, 2, none⟩ = some (.slice none 0 0) := by go_simp
 have rf1_2 : w1.frozen? ⟨w.heap.size + 1, 2, none⟩ = false := by go_simp
 clear hb1 hc1 hf1
 go_wp2_with fail
 refine (HRD.out _ (HT.out.below HB1.out (Nat.le_refl _)) (HE.out.below HB1.out (Nat.le_refl _))).mono ?_
 rintro e w2 ⟨rfl, hb2⟩
 dsimp only
 obtain ⟨hc2, hf2⟩ := bcell hb2
 have hz2 := hb2.size
 have hz2a : w.heap.size < w2.heap.size := by omega
 have hz2b : w.heap.size + 1 < w2.heap.size := by omega
 have HB2 := Lib.hid (HB1.out.trans (hb2.mono zO))
 have bx2_0 : w2.cell? ⟨w.heap.size, 0, none⟩ = some (.int .i64 p) := by go_simp
 have bx2_1 : w2.cell? ⟨w.heap.size, 1, none⟩ = some (.int .i64 q) := by go_simp
 have bx2_2 : w2.cell? ⟨w.heap.size, 2, none⟩ = some (.slice a L.length cap) := by go_simp
 have rs2_0 : w2.cell? ⟨w.heap.size + 1, 0, none⟩ = some (.int .i64 0) := by go_simp
 have rf2_0 : w2.frozen? ⟨w.heap.size + 1, 0, none⟩ = false := by go_simp
 have rs2_1 : w2.cell? ⟨w.heap.size + 1, 1, none⟩ = some (.int .i64 0) := by go_simp
 have rf2_1 : w2.frozen? ⟨w.heap.size + 1, 1, none⟩ = false := by go_simp
 have rs2_2 : w2.cell? ⟨w.heap.size + 1, 2, none⟩ = some (.slice none 0 0) := by go_simp
 have rf2_2 : w2.frozen? ⟨w.heap.size + 1, 2, none⟩ = false := by go_simp
 clear hb2 hc2 hf2
 go_wp2_with fail
 rename_i K hK
 refine region_namedD ?_
 intro W hW
 have HBW := Lib.hid (show Below w.heap.size w W by rw [hW]; exact HB2.out.alloc zO _)
 have cb0 : W.cell? ⟨w.heap.size, 0, none⟩ = some (.int .i64 p) := by rw [hW]; go_simp
 have cb1 : W.cell? ⟨w.heap.size, 1, none⟩ = some (.int .i64 q) := by rw [hW]; go_simp
 have cb2 : W.cell? ⟨w.heap.size, 2, none⟩ = some (.slice a L.length cap) := by rw [hW]; go_simp
 have r0 : W.cell? ⟨w.heap.size + 1, 0, none⟩ = some (.int .i64 0) := by rw [hW]; go_simp
 have r1 : W.cell? ⟨w.heap.size + 1, 1, none⟩ = some (.int .i64 0) := by rw [hW]; go_simp
 have r2 : W.cell? ⟨w.heap.size + 1, 2, none⟩ = some (.slice none 0 0) := by rw [hW]; go_simp
 have g0 : W.frozen? ⟨w.heap.size + 1, 0, none⟩ = false := by rw [hW]; go_simp
 have g1 : W.frozen? ⟨w.heap.size + 1, 1, none⟩ = false := by rw [hW]; go_simp
 have g2 : W.frozen? ⟨w.heap.size + 1, 2, none⟩ = false := by rw [hW]; go_simp
 have hbl : w.heap.size < W.heap.size := World.block_lt_of_cell? W _ cb0
 have hRW : w.heap.size + 1 < W.heap.size := World.block_lt_of_cell? W _ r0
 have hbR : w.heap.size ≠ w.heap.size + 1 := by omega
 clear hW bx1_0 bx1_1 bx1_2 rs1_0 rs1_1 rs1_2 rf1_0 rf1_1 rf1_2 bx2_0 bx2_1 bx2_2 rs2_0 rs2_1 rs2_2 rf2_0 rf2_1 rf2_2
 refine wp_region_stores (PP := lineP W.heap.size w.heap.size p q a L cap s (ansV p q s.data.toList)) (Grow := fun u u' => u.grownBy u' (some (w.heap.size + 1))) (G := lineG W (w.heap.size + 1) p q L) (by kernel_rfl) (dis_of2 (by kernel_rfl)) (b_of (by kernel_rfl)) (back_of (by kernel_rfl)) (fun j u u1 u2 hg hp => lineP_mono hRW _ _ _ _ _ _ _ _ j u u1 u2 hg hp) ⟨gr_drew (gr_refl _ _), _, _, _, ⟨r0, r1, r2⟩, ⟨g0, g1, g2⟩, fun h => by simp [Array.getD_eq_getD_getElem?] at h⟩ ?step ?fin
 case step =>
   intro i o hi listed act w4 hS hG hall hl
   have hi10 : i < 10 := (Array.getElem?_eq_some_iff.1 hi).1
   rcases (show i = 0 ∨ i = 1 ∨ i = 2 ∨ i = 3 ∨ i = 4 ∨ i = 5 ∨ i = 6 ∨ i = 7 ∨ i = 8 ∨ i = 9 by omega) with rfl | rfl | rfl | rfl | rfl | rfl | rfl | rfl | rfl | rfl
   · obtain rfl := Option.some.inj hi
     have e2 : act.eval (.tmp 2) = .pointer (some ⟨w.heap.size, 0, none⟩) := hS.2.2.1 2 (noDst_of (by kernel_rfl))
     refine op_value (v := .pointer (some ⟨w.heap.size, 0, none⟩)) (w' := w4) rfl rfl (by intro ev ht hc hf; rw [← ht] at e2; simp [execOp, hc, hf, e2, go_sem]) ⟨.inl ⟨_, 21, rfl, rfl, rfl⟩, gr_refl _ _, lineG_same hG zd⟩
   · obtain rfl := Option.some.inj hi
     have P0 := hS.2.2.2 0 _ 21 rfl rfl (hall { on := 0, ground := .data } (by simp) rfl)
     replace P0 : act.eval (.tmp 21) = .pointer (some ⟨w.heap.size, 0, none⟩) := P0
     have b0 : w4.cell? ⟨w.heap.size, 0, none⟩ = some (.int .i64 p) := ((gcell hG.1).1 _ _ hbl hbR).trans cb0
     have b1 : w4.cell? ⟨w.heap.size, 1, none⟩ = some (.int .i64 q) := ((gcell hG.1).1 _ _ hbl hbR).trans cb1
     have b2 : w4.cell? ⟨w.heap.size, 2, none⟩ = some (.slice a L.length cap) := ((gcell hG.1).1 _ _ hbl hbR).trans cb2
     refine op_value (v := .agg #[.int .i64 p, .int .i64 q]) (w' := w4) rfl rfl (by intro ev ht hc hf; rw [← ht] at P0; simp [execOp, hc, hf, P0, b0, b1, go_sem]) ⟨.inl ⟨_, 22, rfl, rfl, rfl⟩, gr_refl _ _, lineG_same hG zd⟩
   · obtain rfl := Option.some.inj hi
     have e2 : act.eval (.tmp 2) = .pointer (some ⟨w.heap.size, 0, none⟩) := hS.2.2.1 2 (noDst_of (by kernel_rfl))
     refine op_value (v := .pointer (some ⟨w.heap.size, 2, none⟩)) (w' := w4) rfl rfl (by intro ev ht hc hf; rw [← ht] at e2; simp [execOp, hc, hf, e2, go_sem]) ⟨.inl ⟨_, 23, rfl, rfl, rfl⟩, gr_refl _ _, lineG_same hG zd⟩
   · obtain rfl := Option.some.inj hi
     have P2 := hS.2.2.2 2 _ 23 rfl rfl (hall { on := 2, ground := .data } (by simp) rfl)
     replace P2 : act.eval (.tmp 23) = .pointer (some ⟨w.heap.size, 2, none⟩) := P2
     have b0 : w4.cell? ⟨w.heap.size, 0, none⟩ = some (.int .i64 p) := ((gcell hG.1).1 _ _ hbl hbR).trans cb0
     have b1 : w4.cell? ⟨w.heap.size, 1, none⟩ = some (.int .i64 q) := ((gcell hG.1).1 _ _ hbl hbR).trans cb1
     have b2 : w4.cell? ⟨w.heap.size, 2, none⟩ = some (.slice a L.length cap) := ((gcell hG.1).1 _ _ hbl hbR).trans cb2
     refine op_value (v := .slice a L.length cap) (w' := w4) rfl rfl (by intro ev ht hc hf; rw [← ht] at P2; simp [execOp, hc, hf, P2, b2, go_sem]) ⟨.inl ⟨_, 24, rfl, rfl, rfl⟩, gr_refl _ _, lineG_same hG zd⟩
   · obtain rfl := Option.some.inj hi
     have P1 := hS.2.2.2 1 _ 22 rfl rfl (hall { on := 1, ground := .data } (by simp) rfl)
     replace P1 : act.eval (.tmp 22) = .agg #[.int .i64 p, .int .i64 q] := P1
     have P3 := hS.2.2.2 3 _ 24 rfl rfl (hall { on := 3, ground := .data } (by simp) rfl)
     replace P3 : act.eval (.tmp 24) = .slice a L.length cap := P3
     have hB4 : Below w.heap.size w w4 := HBW.out.grown hG.1 HBW.out.size (fun k e => by cases e; omega)
     refine op_enter rfl rfl (f := 50) (args := #[pr p q, .slice a L.length cap]) (w' := w4) (by intro ev ht hc hf; rw [← ht] at P1 P3; simp [execOp, hc, hf, P1, P3, go_sem, hen1, pr]) ?_
     refine (deskWith_any B C p q L _ w4 (H.out.below hB4 hC) hn).mono ?_
     rintro e w5 ⟨a5, c5, rfl, ho5, hb5⟩
     exact ⟨_, rfl, .inl ⟨_, 25, rfl, rfl, ⟨a5, c5, rfl, own_le ho5 hG.1.size⟩⟩, gr_below (gr_refl _ _) hb5, lineG_call hG hRW zd hb5⟩
   · obtain rfl := Option.some.inj hi
     have e2 : act.eval (.tmp 2) = .pointer (some ⟨w.heap.size, 0, none⟩) := hS.2.2.1 2 (noDst_of (by kernel_rfl))
     have b0 : w4.cell? ⟨w.heap.size, 0, none⟩ = some (.int .i64 p) := ((gcell hG.1).1 _ _ hbl hbR).trans cb0
     have b1 : w4.cell? ⟨w.heap.size, 1, none⟩ = some (.int .i64 q) := ((gcell hG.1).1 _ _ hbl hbR).trans cb1
     have b2 : w4.cell? ⟨w.heap.size, 2, none⟩ = some (.slice a L.length cap) := ((gcell hG.1).1 _ _ hbl hbR).trans cb2
     refine op_value (v := .agg #[.int .i64 p, .int .i64 q, .slice a L.length cap]) (w' := w4) rfl rfl (by intro ev ht hc hf; rw [← ht] at e2; simp [execOp, hc, hf, e2, b0, b1, b2, go_sem]) ⟨.inl ⟨_, 26, rfl, rfl, rfl⟩, gr_refl _ _, lineG_same hG zd⟩
   · obtain rfl := Option.some.inj hi
     have e1 : act.eval (.tmp 1) = .string s := hS.2.2.1 1 (noDst_of (by kernel_rfl))
     refine op_value (v := .string s) (w' := w4) rfl rfl (by intro ev ht hc hf; rw [← ht] at e1; simp [execOp, hc, hf, e1, go_sem]) ⟨.inl ⟨_, 27, rfl, rfl, rfl⟩, gr_refl _ _, lineG_same hG zd⟩
   · obtain rfl := Option.some.inj hi
     have P5 := hS.2.2.2 5 _ 26 rfl rfl (hall { on := 5, ground := .data } (by simp) rfl)
     replace P5 : act.eval (.tmp 26) = .agg #[.int .i64 p, .int .i64 q, .slice a L.length cap] := P5
     have P6 := hS.2.2.2 6 _ 27 rfl rfl (hall { on := 6, ground := .data } (by simp) rfl)
     replace P6 : act.eval (.tmp 27) = .string s := P6
     have hB4 : Below w.heap.size w w4 := HBW.out.grown hG.1 HBW.out.size (fun k e => by cases e; omega)
     refine op_enter rfl rfl (f := 51) (args := #[.agg #[.int .i64 p, .int .i64 q, .slice a L.length cap], .string s]) (w' := w4) (by intro ev ht hc hf; rw [← ht] at P5 P6; simp [execOp, hc, hf, P5, P6, go_sem, hen2]) ?_
     refine (answerTo_any p q _ s w4 hs hsm.1 hsm.2 (HT.out.below hB4 (Nat.le_refl _)) (HE.out.below hB4 (Nat.le_refl _))).mono ?_
     rintro e w5 ⟨rfl, hb5⟩
     exact ⟨_, rfl, .inl ⟨_, 28, rfl, rfl, rfl⟩, gr_below (gr_refl _ _) hb5, lineG_call hG hRW zd hb5⟩
   · obtain rfl := Option.some.inj hi
     have e4 : act.eval (.tmp 4) = .pointer (some ⟨w.heap.size + 1, 0, none⟩) := hS.2.2.1 4 (noDst_of (by kernel_rfl))
     have P4 := hS.2.2.2 4 _ 25 rfl rfl (hall { on := 4, ground := .data } (by simp) rfl)
     obtain ⟨a5, c5, e25, ho5⟩ := P4
     obtain ⟨_, x, y, z, ⟨c0, c1, c2⟩, ⟨f0, f1, f2⟩, _⟩ := id hG
     obtain ⟨hgr, hG'⟩ := lineG_put hG hRW ho5
     refine op_store (w' := ((w4.setCell ⟨w.heap.size + 1, 0, none⟩ (.int .i64 p)).setCell ⟨w.heap.size + 1, 1, none⟩ (.int .i64 q)).setCell ⟨w.heap.size + 1, 2, none⟩ (.slice a5 L.length c5)) rfl rfl rfl (by intro ev ht hc hf; rw [← ht] at e4 e25; simp [execOp, hc, hf, e4, e25, go_sem, c0, c1, c2, f0, f1, f2]; try go_simp) ⟨.inr ⟨rfl, rfl⟩, hgr, hG'⟩
   · obtain rfl := Option.some.inj hi
     have P7 := hS.2.2.2 7 _ 28 rfl rfl (hall { on := 7, ground := .data } (by simp) rfl)
     replace P7 : act.eval (.tmp 28) = .string (ansV p q s.data.toList) := P7
     refine op_value (v := .string (ansV p q s.data.toList)) (w' := w4) rfl rfl (by intro ev ht hc hf; rw [← ht] at P7; simp [execOp, hc, hf, P7, go_sem]) ⟨.inl ⟨_, 5, rfl, rfl, rfl⟩, gr_refl _ _, lineG_same hG zd⟩
 case fin =>
   intro listed act w4 hall hS hG
   have e4 : act.tmps.getD 4 undef = .pointer (some ⟨w.heap.size + 1, 0, none⟩) := hS.2.2.1 4 (noDst_of (by kernel_rfl))
   have e5 := hS.2.2.2 9 _ 5 rfl rfl (hall 9 zd)
   replace e5 : act.tmps.getD 5 undef = .string (ansV p q s.data.toList) := e5
   obtain ⟨hg, x, y, z, ⟨c0, c1, c2⟩, _, h8⟩ := hG
   obtain ⟨a5, c5, rfl, rfl, rfl, ho⟩ := h8 (hall 8 zd)
   have hB4 : Below w.heap.size w w4 := HBW.out.grown hg HBW.out.size (fun k e => by cases e; omega)
   have hz4 := HBW.out.size
   have hd : act.defers = [] := hS.1
   have hsz : act.tmps.size = 39 := hS.2.1
   obtain ⟨t, d⟩ := act
   clear hS hall hg h8
   dsimp only at hd hsz e4 e5
   subst hd
   obtain ⟨u0, u1, u2, u3, u6, u7, u8, u9, u10, u11, u12, u13, u14, u15, u16, u17, u18, u19, u20, u21, u22, u23, u24, u25, u26, u27, u28, u29, u30, u31, u32, u33, u34, u35, u36, u37, u38, rfl⟩ := actL t hsz _ _ e4 e5
   clear e4 e5 hsz hen1 hen2
   refine hK _ _ ?_
   clear hK K
   go_wp2_with fail
   refine bodyPost_ret (v := .tuple #[.agg #[.int .i64 p, .int .i64 q, .slice a5 L.length c5], .string (ansV p q s.data.toList)]) (by simp [results, Tryz.results14, go_sem, c0, c1, c2]) rfl ?_
   unfold LineS
   rw [HV.out]
   exact ⟨a5, c5, rfl, (IsPairs.of_owns ho).mono hz4 (Nat.le_refl _) (Nat.le_refl _), hB4⟩
theorem implLine_any (B C : Nat) (p q : Int) (L : List (Int × Int)) (v : Value) (s : ByteArray) (w : World) (h : IsPairs B C w v L) (hn : L.length ≤ 1048600) (hs : s.size ≤ 1048600) (ht : PowTab w) (he : Errs w) :
   Calls Tryz.prog 14 #[.agg #[.int .i64 p, .int .i64 q, v], .string s] w (LineS ⟨(p, q), L⟩ s.data.toList w) := by
 cases hd : deskN ⟨(p, q), L⟩ with
 | false => exact implLine_no B C p q L v s w h hn hd
 | true =>
   cases hr : readN s.data.toList with
   | none => exact implLine_ask B C p q L v s w h hn hs hd hr ht he
   | some x => exact implLine_deed B C p q L v s w h hn hs hd x.kind x.a x.b hr ht he
end
section
open Go.RowKit Go.Shelf
set_option maxRecDepth 100000 in
set_option maxHeartbeats 2000000 in
theorem specLine_no (B C : Nat) (p q : Int) (L : List (Int × Int)) (v : Value) (s : ByteArray) (w : World) (h : IsPairs B C w v L) (hn : L.length ≤ 1048600) (hd : deskN ⟨(p, q), L⟩ = false) :
   Calls Tryz.prog 21 #[.agg #[.int .i64 p, .int .i64 q, v], .string s] w (LineS ⟨(p, q), L⟩ s.data.toList w) := by
 obtain ⟨a, cap, rfl, hC, hs0⟩ := id h
 clear hs0
 have H := Lib.hid h
 have HD := Lib.hid hd
 clear h hd
 go_enter Tryz.func21, Tryz.ntmps21
 go_wp2_with fail
 refine (specDeskOk_any B C p q _ _ _ (H.out.below (show Below w.heap.size w _ by exact zb) hC) hn).mono ?_
 rintro e w1 ⟨rfl, hb1⟩
 obtain ⟨hc1, hf1⟩ := bcell hb1
 have hz1 := hb1.size
 simp at hz1
 have hz1a : w.heap.size < w1.heap.size := by omega
 have hz1b : w.heap.size + 1 < w1.heap.size := by omega
 have HB1 := Lib.hid (show Below w.heap.size w w1 by exact zb)
 rw [HD.out]
 clear hb1
 go_wp2_with fail
 refine bodyPost_ret (v := .tuple #[.agg #[.int .i64 0, .int .i64 0, .slice none 0 0], .string ⟨#[]⟩]) (by simp [results, Tryz.results21, go_sem]; go_simp) rfl ?_
 unfold LineS
 rw [lineV_no HD.out]
 refine ⟨none, 0, rfl, IsPairs.mono (IsPairs.empty w.heap.size _ none 0) (Nat.le_refl _) (Nat.le_refl _) (Nat.le_refl _), ?_⟩
 exact (((HB1.out.setCell zs _).setCell zs _).setCell zs _)
set_option maxRecDepth 100000 in
set_option maxHeartbeats 4000000 in
theorem specLine_deed (B C : Nat) (p q : Int) (L : List (Int × Int)) (v : Value) (s : ByteArray) (w : World) (h : IsPairs B C w v L) (hn : L.length ≤ 1048600) (hs : s.size ≤ 1048600) (hd : deskN ⟨(p, q), L⟩ = true) (k x y : Int) (hr : readN s.data.toList = some ⟨k, x, y⟩) :
   Calls Tryz.prog 21 #[.agg #[.int .i64 p, .int .i64 q, v], .string s] w (LineS ⟨(p, q), L⟩ s.data.toList w) := by
 have hrd := fun W => specDeedRead_any s W zO
 rw [deedV_some hr] at hrd
 have hdo := fun (W : World) B C v h => specDo_any B C p q k x y L v W h hn
 unfold DidS at hdo
 rw [doR_yes hd] at hdo
 obtain ⟨⟨⟨p', q'⟩, L'⟩, ok, hres⟩ : ∃ d ok, doN ⟨(p, q), L⟩ ⟨k, x, y⟩ = (d, ok) := ⟨_, _, rfl⟩
 rw [hres] at hdo
 have HDO := Lib.hid hdo
 have HV := Lib.hid (lineV_deed hd hr hres)
 clear hdo hres hr
 obtain ⟨a, cap, rfl, hC, hs0⟩ := id h
 clear hs0
 have H := Lib.hid h
 have HD := Lib.hid hd
 clear h hd
 go_enter Tryz.func21, Tryz.ntmps21
 go_wp2_with fail
 refine (specDeskOk_any B C p q _ _ _ (H.out.below (show Below w.heap.size w _ by exact zb) hC) hn).mono ?_
 rintro e w1 ⟨rfl, hb1⟩
 obtain ⟨hc1, hf1⟩ := bcell hb1
 have hz1 := hb1.size
 simp at hz1
 have hz1a : w.heap.size < w1.heap.size := by omega
 have hz1b : w.heap.size + 1 < w1.heap.size := by omega
 have HB1 := Lib.hid (show Below w.heap.size w w1 by exact zb)
 rw [HD.out]
 have bx1_0 : w1.cell? ⟨w.heap.size, 0, none⟩ = some (.int .i64 p) := by go_simp
 have bx1_1 : w1.cell? ⟨w.heap.size, 1, none⟩ = some (.int .i64 q) := by go_simp
 have bx1_2 : w1.cell? ⟨w.heap.size, 2, none⟩ = some (.slice a L.length cap) := by go_simp
 have rs1_0 : w1.cell? ⟨w.heap.size + 1, 0, none⟩ = some (.int .i64 0) := by go_simp
 have rf1_0 : w1.frozen? ⟨w.heap.size + 1, 0, none⟩ = false := by go_simp
 have rs1_1 : w1.cell? ⟨w.heap.size + 1, 1, none⟩ = some (.int .i64 0) := by go_simp
 have rf1_1 : w1.frozen? ⟨w.heap.size + 1, 1, none⟩ = false := by go_simp
 have rs1_2 : w1.cell? ⟨w.heap.size + 1, 2, none⟩ = some (.slice none 0 0) := by go_simp
 have rf1_2 : w1.frozen? ⟨w.heap.size + 1, 2, none⟩ = false := by go_simp
 clear hb1 hc1 hf1
 go_wp2_with fail
 refine (specCopy_any B C p q L _ _ (H.out.below HB1.out hC) hn).mono ?_
 rintro e w2 ⟨a2, c2, rfl, hown2, hb2⟩
 dsimp only at hown2 ⊢
 obtain ⟨hc2, hf2⟩ := bcell hb2
 have hz2 := hb2.size
 have hz2a : w.heap.size < w2.heap.size := by omega
 have hz2b : w.heap.size + 1 < w2.heap.size := by omega
 have HB2 := Lib.hid (HB1.out.trans (hb2.mono zO))
 have HO2 := Lib.hid hown2
 have bx2_0 : w2.cell? ⟨w.heap.size, 0, none⟩ = some (.int .i64 p) := by go_simp
 have bx2_1 : w2.cell? ⟨w.heap.size, 1, none⟩ = some (.int .i64 q) := by go_simp
 have bx2_2 : w2.cell? ⟨w.heap.size, 2, none⟩ = some (.slice a L.length cap) := by go_simp
 have rs2_0 : w2.cell? ⟨w.heap.size + 1, 0, none⟩ = some (.int .i64 0) := by go_simp
 have rf2_0 : w2.frozen? ⟨w.heap.size + 1, 0, none⟩ = false := by go_simp
 have rs2_1 : w2.cell? ⟨w.heap.size + 1, 1, none⟩ = some (.int .i64 0) := by go_simp
 have rf2_1 : w2.frozen? ⟨w.heap.size + 1, 1, none⟩ = false := by go_simp
 have rs2_2 : w2.cell? ⟨w.heap.size + 1, 2, none⟩ = some (.slice none 0 0) := by go_simp
 have rf2_2 : w2.frozen? ⟨w.heap.size + 1, 2, none⟩ = false := by go_simp
 clear hb2 hc2 hf2 hown2
 go_wp2_with fail
 refine (hrd _).mono ?_
 rintro e w3 ⟨rfl, hb3⟩
 dsimp only
 obtain ⟨hc3, hf3⟩ := bcell hb3
 have hz3 := hb3.size
 simp at hz3
 have hz3a : w.heap.size < w3.heap.size := by omega
 have hz3b : w.heap.size + 1 < w3.heap.size := by omega
 have hz3c : w2.heap.size < w3.heap.size := by omega
 have HB3 := Lib.hid (show Below w.heap.size w w3 from (HB2.out.alloc zO _).trans (hb3.mono (by simp; omega)))
 have bx3_0 : w3.cell? ⟨w.heap.size, 0, none⟩ = some (.int .i64 p) := by go_simp
 have bx3_1 : w3.cell? ⟨w.heap.size, 1, none⟩ = some (.int .i64 q) := by go_simp
 have bx3_2 : w3.cell? ⟨w.heap.size, 2, none⟩ = some (.slice a L.length cap) := by go_simp
 have rs3_0 : w3.cell? ⟨w.heap.size + 1, 0, none⟩ = some (.int .i64 0) := by go_simp
 have rf3_0 : w3.frozen? ⟨w.heap.size + 1, 0, none⟩ = false := by go_simp
 have rs3_1 : w3.cell? ⟨w.heap.size + 1, 1, none⟩ = some (.int .i64 0) := by go_simp
 have rf3_1 : w3.frozen? ⟨w.heap.size + 1, 1, none⟩ = false := by go_simp
 have rs3_2 : w3.cell? ⟨w.heap.size + 1, 2, none⟩ = some (.slice none 0 0) := by go_simp
 have rf3_2 : w3.frozen? ⟨w.heap.size + 1, 2, none⟩ = false := by go_simp
 have t3_0 : w3.cell? ⟨w2.heap.size, 0, none⟩ = some (.int .i64 p) := by go_simp
 have t3_1 : w3.cell? ⟨w2.heap.size, 1, none⟩ = some (.int .i64 q) := by go_simp
 have t3_2 : w3.cell? ⟨w2.heap.size, 2, none⟩ = some (.slice a2 L.length c2) := by go_simp
 have HO3 := Lib.hid (own_keeps (HO2.out.alloc (.cells #[.int .i64 p, .int .i64 q, .slice a2 L.length c2] 32)) hb3)
 clear hb3 hc3 hf3
 go_wp2_with fail
 refine (HDO.out _ _ _ _ (H.out.below (show Below w.heap.size w _ from HB3.out.alloc zO _) hC)).mono ?_
 rintro e w4 ⟨a4, c4, rfl, hI4, _, hb4⟩
 dsimp only at hI4 ⊢
 obtain ⟨hc4, hf4⟩ := bcell hb4
 have hz4 := hb4.size
 simp at hz4
 simp only [World.size_alloc] at hI4
 have hz4a : w.heap.size < w4.heap.size := by omega
 have hz4b : w.heap.size + 1 < w4.heap.size := by omega
 have HB4 := Lib.hid (show Below w.heap.size w w4 from (HB3.out.alloc zO _).trans (hb4.mono (by simp; omega)))
 have bx4_0 : w4.cell? ⟨w.heap.size, 0, none⟩ = some (.int .i64 p) := by go_simp
 have bx4_1 : w4.cell? ⟨w.heap.size, 1, none⟩ = some (.int .i64 q) := by go_simp
 have bx4_2 : w4.cell? ⟨w.heap.size, 2, none⟩ = some (.slice a L.length cap) := by go_simp
 have rs4_0 : w4.cell? ⟨w.heap.size + 1, 0, none⟩ = some (.int .i64 0) := by go_simp
 have rf4_0 : w4.frozen? ⟨w.heap.size + 1, 0, none⟩ = false := by go_simp
 have rs4_1 : w4.cell? ⟨w.heap.size + 1, 1, none⟩ = some (.int .i64 0) := by go_simp
 have rf4_1 : w4.frozen? ⟨w.heap.size + 1, 1, none⟩ = false := by go_simp
 have rs4_2 : w4.cell? ⟨w.heap.size + 1, 2, none⟩ = some (.slice none 0 0) := by go_simp
 have rf4_2 : w4.frozen? ⟨w.heap.size + 1, 2, none⟩ = false := by go_simp
 have HI4 := Lib.hid hI4
 clear hb4 hc4 hf4 hI4
 cases ok with
 | false =>
   go_wp2_with fail
   refine bodyPost_ret (v := .tuple #[.agg #[.int .i64 p', .int .i64 q', .slice a4 L'.length c4], .string notLn]) (by simp [results, Tryz.results21, go_sem]; go_simp; rfl) rfl ?_
   have hI5 := pairs_set3 (b := w.heap.size + 1) HI4.out zO (.int .i64 p') (.int .i64 q') (.slice a4 L'.length c4)
   unfold LineS
   rw [HV.out]
   refine ⟨a4, c4, rfl, (hI5.below ((Below.refl _ _).alloc (Nat.le_refl _) _) (by simp [set3, World.setCell])).mono (by show w.heap.size ≤ _; omega) (by simp [World.setCell]) (Nat.le_refl _), ?_⟩
   exact (((HB4.out.setCell zs _).setCell zs _).setCell zs _).alloc (by simp [World.setCell]; omega) _
 | true =>
   go_wp2_with fail
   refine bodyPost_ret (v := .tuple #[.agg #[.int .i64 p', .int .i64 q', .slice a4 L'.length c4], .string okLn]) (by simp [results, Tryz.results21, go_sem]; go_simp; rfl) rfl ?_
   have hI5 := pairs_set3 (b := w.heap.size + 1) HI4.out zO (.int .i64 p') (.int .i64 q') (.slice a4 L'.length c4)
   unfold LineS
   rw [HV.out]
   refine ⟨a4, c4, rfl, (hI5.below ((Below.refl _ _).alloc (Nat.le_refl _) _) (by simp [set3, World.setCell])).mono (by show w.heap.size ≤ _; omega) (by simp [World.setCell]) (Nat.le_refl _), ?_⟩
   exact (((HB4.out.setCell zs _).setCell zs _).setCell zs _).alloc (by simp [World.setCell]; omega) _
end
section
open Go.RowKit Go.Shelf
def lineF (W : World) (R st : Nat) (p q : Int) (d : Value) (l : Array Bool) (w : World) : Prop :=
 W.grownBy w (some R) ∧ ∃ x y z, (w.cell? ⟨R, 0, none⟩ = some x ∧ w.cell? ⟨R, 1, none⟩ = some y ∧ w.cell? ⟨R, 2, none⟩ = some z) ∧ (w.frozen? ⟨R, 0, none⟩ = false ∧ w.frozen? ⟨R, 1, none⟩ = false ∧ w.frozen? ⟨R, 2, none⟩ = false) ∧
   (l.getD st false = true → x = .int .i64 p ∧ y = .int .i64 q ∧ z = d)
theorem lineF_same {W w : World} {R st i : Nat} {p q : Int} {d : Value} {l : Array Bool} (h : lineF W R st p q d l w) (hi : i ≠ st) : lineF W R st p q d (l.setIfInBounds i true) w := by
 unfold lineF at *
 rw [getD_set_other _ hi]
 exact h
theorem lineF_call {W w w' : World} {R st i : Nat} {p q : Int} {d : Value} {l : Array Bool} (h : lineF W R st p q d l w) (hR : R < W.heap.size) (hi : i ≠ st) (hb : Below w.heap.size w w') : lineF W R st p q d (l.setIfInBounds i true) w' := by
 obtain ⟨hg, x, y, z, ⟨c0, c1, c2⟩, ⟨f0, f1, f2⟩, h8⟩ := h
 have hRw : R < w.heap.size := Nat.lt_of_lt_of_le hR hg.size
 obtain ⟨hc, hf⟩ := bcell hb
 refine ⟨gr_below hg hb, x, y, z, ⟨(hc R 0 hRw).trans c0, (hc R 1 hRw).trans c1, (hc R 2 hRw).trans c2⟩, ⟨(hf R 0 hRw).trans f0, (hf R 1 hRw).trans f1, (hf R 2 hRw).trans f2⟩, fun h => ?_⟩
 rw [getD_set_other _ hi] at h
 exact h8 h
theorem lineF_put {W w : World} {R st : Nat} {p q : Int} {d : Value} {l : Array Bool} (h : lineF W R st p q d l w) :
   lineF W R st p q d (l.setIfInBounds st true) (((w.setCell ⟨R, 0, none⟩ (.int .i64 p)).setCell ⟨R, 1, none⟩ (.int .i64 q)).setCell ⟨R, 2, none⟩ d) := by
 obtain ⟨hg, x, y, z, ⟨c0, c1, c2⟩, ⟨f0, f1, f2⟩, _⟩ := h
 have hgr : w.grownBy (((w.setCell ⟨R, 0, none⟩ (.int .i64 p)).setCell ⟨R, 1, none⟩ (.int .i64 q)).setCell ⟨R, 2, none⟩ d) (some R) :=
   ⟨rfl, rfl, rfl, by simp [World.setCell], fun j hj hne => by
     have hne' : j ≠ R := fun e => hne (by rw [e])
     rw [Below.heap_setCell _ _ _ _ hne', Below.heap_setCell _ _ _ _ hne', Below.heap_setCell _ _ _ _ hne']⟩
 have ne : ∀ (i j : Nat), i ≠ j → (⟨R, i, none⟩ : Addr) ≠ ⟨R, j, none⟩ := fun i j h e => by injection e with _ e; exact h e
 refine ⟨gr_trans hg hgr, .int .i64 p, .int .i64 q, d, ⟨?_, ?_, ?_⟩, ⟨?_, ?_, ?_⟩, fun _ => ⟨rfl, rfl, rfl⟩⟩
 · rw [World.cell?_setCell_other _ _ _ _ (ne _ _ zd), World.cell?_setCell_other _ _ _ _ (ne _ _ zd), World.cell?_setCell_same' _ _ _ (by rw [c0]; rfl)]
 · rw [World.cell?_setCell_other _ _ _ _ (ne _ _ zd), World.cell?_setCell_same' _ _ _ (by rw [World.cell?_setCell_other _ _ _ _ (ne _ _ zd), c1]; rfl)]
 · rw [World.cell?_setCell_same' _ _ _ (by rw [World.cell?_setCell_other _ _ _ _ (ne _ _ zd), World.cell?_setCell_other _ _ _ _ (ne _ _ zd), c2]; rfl)]
 · rw [World.frozen?_setCell, World.frozen?_setCell, World.frozen?_setCell]; exact f0
 · rw [World.frozen?_setCell, World.frozen?_setCell, World.frozen?_setCell]; exact f1
 · rw [World.frozen?_setCell, World.frozen?_setCell, World.frozen?_setCell]; exact f2
def weightP (bx : Nat) (p q : Int) (a2 : Option Addr) (L : List (Int × Int)) (c2 : Nat) (ans : ByteArray) (j : Nat) (v : Value) : Prop :=
 match j with
 | 0 => v = .agg #[.int .i64 p, .int .i64 q, .slice a2 L.length c2]
 | 1 => v = .pointer (some ⟨bx, 0, none⟩)
 | 2 => v = .agg #[.int .i64 p, .int .i64 q]
 | 3 => v = .tuple #[.int .i64 (weightV p q), .bool (pairB p q)]
 | 4 => v = .int .i64 (weightV p q)
 | 5 => v = .bool (pairB p q)
 | 6 => v = .string ans
 | 8 => v = .string ans
 | _ => True
theorem ansW {p q : Int} {s : ByteArray} (hw : s.toList = [119, 101, 105, 103, 104, 116]) : ansV p q s.data.toList = toldT (weightV p q) (pairB p q) := by
 rw [bl_toList] at hw
 have e : wordsN [] [119, 101, 105, 103, 104, 116] = [[119, 101, 105, 103, 104, 116]] := by decide
 unfold ansV
 rw [hw, e]
 simp [numsN, askV, ask0, bl_toList, txt_list]
set_option linter.unusedSimpArgs false in
set_option maxRecDepth 100000 in
set_option maxHeartbeats 16000000 in
theorem specLine_weight (B C : Nat) (p q : Int) (L : List (Int × Int)) (v : Value) (s : ByteArray) (w : World) (h : IsPairs B C w v L) (hn : L.length ≤ 1048600) (hs : s.size ≤ 1048600) (hd : deskN ⟨(p, q), L⟩ = true) (hr : readN s.data.toList = none) (hw : s.toList = [119, 101, 105, 103, 104, 116]) (ans : ByteArray) (hans : ansV p q s.data.toList = ans) :
   Calls Tryz.prog 21 #[.agg #[.int .i64 p, .int .i64 q, v], .string s] w (LineS ⟨(p, q), L⟩ s.data.toList w) := by
 have hen1 : ∀ (args : Array Value) (w : World), (callFunc 66 args).run Tryz.prog w = .ok (.enter 66 args) w := enters_of Tryz.func66 (by kernel_rfl) rfl
 have hen2 : ∀ (args : Array Value) (w : World), (callFunc 65 args).run Tryz.prog w = .ok (.enter 65 args) w := enters_of Tryz.func65 (by kernel_rfl) rfl
 have htold := fun W => told_any (weightV p q) (pairB p q) W (fun _ => weight_small p q)
 have hat : toldT (weightV p q) (pairB p q) = ans := by
   rw [← hans, ansW hw]
 rw [hat] at htold
 have hrd := fun W => specDeedRead_any s W zO
 rw [deedV_none hr] at hrd
 have HV := Lib.hid (show lineV ⟨(p, q), L⟩ s.data.toList = (⟨(p, q), L⟩, ans) by rw [lineV_ask hd hr, hans])
 clear hr hans
 obtain ⟨a, cap, rfl, hC, hs0⟩ := id h
 clear hs0
 have H := Lib.hid h
 have HD := Lib.hid hd
 clear h hd
 go_enter Tryz.func21, Tryz.ntmps21
 go_wp2_with fail
 refine (specDeskOk_any B C p q _ _ _ (H.out.below (show Below w.heap.size w _ by exact zb) hC) hn).mono ?_
 rintro e w1 ⟨rfl, hb1⟩
 obtain ⟨hc1, hf1⟩ := bcell hb1
 have hz1 := hb1.size
 simp at hz1
 have hz1a : w.heap.size < w1.heap.size := by omega
 have hz1b : w.heap.size + 1 < w1.heap.size := by omega
 have HB1 := Lib.hid (show Below w.heap.size w w1 by exact zb)
 rw [HD.out]
 have bx1_0 : w1.cell? ⟨w.heap.size, 0, none⟩ = some (.int .i64 p) := by go_simp
 have bx1_1 : w1.cell? ⟨w.heap.size, 1, none⟩ = some (.int .i64 q) := by go_simp
 have bx1_2 : w1.cell? ⟨w.heap.size, 2, none⟩ = some (.slice a L.length cap) := by go_simp
 have rs1_0 : w1.cell? ⟨w.heap.size + 1, 0, none⟩ = some (.int .i64 0) := by go_simp
 have rf1_0 : w1.frozen? ⟨w.heap.size + 1, 0, none⟩ = false := by go_simp
 have rs1_1 : w1.cell? ⟨w.heap.size + 1, 1, none⟩ = some (.int .i64 0) := by go_simp
 have rf1_1 : w1.frozen? ⟨w.heap.size + 1, 1, none⟩ = false := by go_simp
 have rs1_2 : w1.cell? ⟨w.heap.size + 1, 2, none⟩ = some (.slice none 0 0) := by go_simp
 have rf1_2 : w1.frozen? ⟨w.heap.size + 1, 2, none⟩ = false := by go_simp
 clear hb1 hc1 hf1
 go_wp2_with fail
 refine (specCopy_any B C p q L _ _ (H.out.below HB1.out hC) hn).mono ?_
 rintro e w2 ⟨a2, c2, rfl, hown2, hb2⟩
 dsimp only at hown2 ⊢
 obtain ⟨hc2, hf2⟩ := bcell hb2
 have hz2 := hb2.size
 have hz2a : w.heap.size < w2.heap.size := by omega
 have hz2b : w.heap.size + 1 < w2.heap.size := by omega
 have HB2 := Lib.hid (HB1.out.trans (hb2.mono zO))
 have HO2 := Lib.hid hown2
 have bx2_0 : w2.cell? ⟨w.heap.size, 0, none⟩ = some (.int .i64 p) := by go_simp
 have bx2_1 : w2.cell? ⟨w.heap.size, 1, none⟩ = some (.int .i64 q) := by go_simp
 have bx2_2 : w2.cell? ⟨w.heap.size, 2, none⟩ = some (.slice a L.length cap) := by go_simp
 have rs2_0 : w2.cell? ⟨w.heap.size + 1, 0, none⟩ = some (.int .i64 0) := by go_simp
 have rf2_0 : w2.frozen? ⟨w.heap.size + 1, 0, none⟩ = false := by go_simp
 have rs2_1 : w2.cell? ⟨w.heap.size + 1, 1, none⟩ = some (.int .i64 0) := by go_simp
 have rf2_1 : w2.frozen? ⟨w.heap.size + 1, 1, none⟩ = false := by go_simp
 have rs2_2 : w2.cell? ⟨w.heap.size + 1, 2, none⟩ = some (.slice none 0 0) := by go_simp
 have rf2_2 : w2.frozen? ⟨w.heap.size + 1, 2, none⟩ = false := by go_simp
 clear hb2 hc2 hf2 hown2
 go_wp2_with fail
 refine (hrd _).mono ?_
 rintro e w3 ⟨rfl, hb3⟩
 dsimp only
 obtain ⟨hc3, hf3⟩ := bcell hb3
 have hz3 := hb3.size
 simp at hz3
 have hz3a : w.heap.size < w3.heap.size := by omega
 have hz3b : w.heap.size + 1 < w3.heap.size := by omega
 have hz3c : w2.heap.size < w3.heap.size := by omega
 have HB3 := Lib.hid (show Below w.heap.size w w3 from (HB2.out.alloc zO _).trans (hb3.mono (by simp; omega)))
 have bx3_0 : w3.cell? ⟨w.heap.size, 0, none⟩ = some (.int .i64 p) := by go_simp
 have bx3_1 : w3.cell? ⟨w.heap.size, 1, none⟩ = some (.int .i64 q) := by go_simp
 have bx3_2 : w3.cell? ⟨w.heap.size, 2, none⟩ = some (.slice a L.length cap) := by go_simp
 have rs3_0 : w3.cell? ⟨w.heap.size + 1, 0, none⟩ = some (.int .i64 0) := by go_simp
 have rf3_0 : w3.frozen? ⟨w.heap.size + 1, 0, none⟩ = false := by go_simp
 have rs3_1 : w3.cell? ⟨w.heap.size + 1, 1, none⟩ = some (.int .i64 0) := by go_simp
 have rf3_1 : w3.frozen? ⟨w.heap.size + 1, 1, none⟩ = false := by go_simp
 have rs3_2 : w3.cell? ⟨w.heap.size + 1, 2, none⟩ = some (.slice none 0 0) := by go_simp
 have rf3_2 : w3.frozen? ⟨w.heap.size + 1, 2, none⟩ = false := by go_simp
 have t3_0 : w3.cell? ⟨w2.heap.size, 0, none⟩ = some (.int .i64 p) := by go_simp
 have t3_1 : w3.cell? ⟨w2.heap.size, 1, none⟩ = some (.int .i64 q) := by go_simp
 have t3_2 : w3.cell? ⟨w2.heap.size, 2, none⟩ = some (.slice a2 L.length c2) := by go_simp
 have HO3 := Lib.hid (own_keeps (HO2.out.alloc (.cells #[.int .i64 p, .int .i64 q, .slice a2 L.length c2] 32)) hb3)
 clear hb3 hc3 hf3
 go_wp2_with fail
 rename_i K hK
 refine region_namedD ?_
 intro W hW
 have HBW := Lib.hid (show Below w.heap.size w W by rw [hW]; exact HB3.out.alloc zO _)
 have cb0 : W.cell? ⟨w.heap.size, 0, none⟩ = some (.int .i64 p) := by rw [hW]; go_simp
 have cb1 : W.cell? ⟨w.heap.size, 1, none⟩ = some (.int .i64 q) := by rw [hW]; go_simp
 have ct0 : W.cell? ⟨w2.heap.size, 0, none⟩ = some (.int .i64 p) := by rw [hW]; go_simp
 have ct1 : W.cell? ⟨w2.heap.size, 1, none⟩ = some (.int .i64 q) := by rw [hW]; go_simp
 have ct2 : W.cell? ⟨w2.heap.size, 2, none⟩ = some (.slice a2 L.length c2) := by rw [hW]; go_simp
 have r0 : W.cell? ⟨w.heap.size + 1, 0, none⟩ = some (.int .i64 0) := by rw [hW]; go_simp
 have r1 : W.cell? ⟨w.heap.size + 1, 1, none⟩ = some (.int .i64 0) := by rw [hW]; go_simp
 have r2 : W.cell? ⟨w.heap.size + 1, 2, none⟩ = some (.slice none 0 0) := by rw [hW]; go_simp
 have g0 : W.frozen? ⟨w.heap.size + 1, 0, none⟩ = false := by rw [hW]; go_simp
 have g1 : W.frozen? ⟨w.heap.size + 1, 1, none⟩ = false := by rw [hW]; go_simp
 have g2 : W.frozen? ⟨w.heap.size + 1, 2, none⟩ = false := by rw [hW]; go_simp
 have hbl : w.heap.size < W.heap.size := World.block_lt_of_cell? W _ cb0
 have htl : w2.heap.size < W.heap.size := World.block_lt_of_cell? W _ ct0
 have hRW : w.heap.size + 1 < W.heap.size := World.block_lt_of_cell? W _ r0
 have hbR : w.heap.size ≠ w.heap.size + 1 := by omega
 have htR : w2.heap.size ≠ w.heap.size + 1 := by omega
 have HOW := Lib.hid (show W.ownsRow w1.heap.size 29 2 (.slice a2 L.length c2) L.length (pairCells L) by rw [hW]; exact HO3.out.alloc _)
 clear hW bx1_0 bx1_1 bx1_2 rs1_0 rs1_1 rs1_2 rf1_0 rf1_1 rf1_2 bx2_0 bx2_1 bx2_2 rs2_0 rs2_1 rs2_2 rf2_0 rf2_1 rf2_2 bx3_0 bx3_1 bx3_2 rs3_0 rs3_1 rs3_2 rf3_0 rf3_1 rf3_2 t3_0 t3_1 t3_2
 refine wp_region_stores (PP := fun j u _ => weightP w.heap.size p q a2 L c2 ans j u) (Grow := fun u u' => u.grownBy u' (some (w.heap.size + 1))) (G := lineF W (w.heap.size + 1) 7 p q (.slice a2 L.length c2)) (by kernel_rfl) (dis_of2 (by kernel_rfl)) (b_of (by kernel_rfl)) (back_of (by kernel_rfl)) (fun _ _ _ _ _ hp => hp) ⟨gr_drew (gr_refl _ _), _, _, _, ⟨r0, r1, r2⟩, ⟨g0, g1, g2⟩, fun h => by simp [Array.getD_eq_getD_getElem?] at h⟩ ?step ?fin
 case step =>
   intro i o hi listed act w9 hS hG hall hl
   have hin : i < 9 := (Array.getElem?_eq_some_iff.1 hi).1
   rcases (show i = 0 ∨ i = 1 ∨ i = 2 ∨ i = 3 ∨ i = 4 ∨ i = 5 ∨ i = 6 ∨ i = 7 ∨ i = 8 by omega) with rfl | rfl | rfl | rfl | rfl | rfl | rfl | rfl | rfl
   · obtain rfl := Option.some.inj hi
     have e6 : act.eval (.tmp 6) = .pointer (some ⟨w2.heap.size, 0, none⟩) := hS.2.2.1 6 (noDst_of (by kernel_rfl))
     have t0 : w9.cell? ⟨w2.heap.size, 0, none⟩ = _ := ((gcell hG.1).1 _ _ htl htR).trans ct0
     have t1 : w9.cell? ⟨w2.heap.size, 1, none⟩ = _ := ((gcell hG.1).1 _ _ htl htR).trans ct1
     have t2 : w9.cell? ⟨w2.heap.size, 2, none⟩ = _ := ((gcell hG.1).1 _ _ htl htR).trans ct2
     refine op_value (v := .agg #[.int .i64 p, .int .i64 q, .slice a2 L.length c2]) (w' := w9) rfl rfl (by intro ev ht hc hf; rw [← ht] at e6; simp [execOp, hc, hf, e6, t0, t1, t2, go_sem]) ⟨.inl ⟨_, 54, rfl, rfl, rfl⟩, gr_refl _ _, lineF_same hG zd⟩
   · obtain rfl := Option.some.inj hi
     have e2 : act.eval (.tmp 2) = .pointer (some ⟨w.heap.size, 0, none⟩) := hS.2.2.1 2 (noDst_of (by kernel_rfl))
     refine op_value (v := .pointer (some ⟨w.heap.size, 0, none⟩)) (w' := w9) rfl rfl (by intro ev ht hc hf; rw [← ht] at e2; simp [execOp, hc, hf, e2, go_sem]) ⟨.inl ⟨_, 55, rfl, rfl, rfl⟩, gr_refl _ _, lineF_same hG zd⟩
   · obtain rfl := Option.some.inj hi
     have P1 := hS.2.2.2 1 _ 55 rfl rfl (hall { on := 1, ground := .data } (by simp) rfl)
     replace P1 : act.eval (.tmp 55) = .pointer (some ⟨w.heap.size, 0, none⟩) := P1
     have b0 : w9.cell? ⟨w.heap.size, 0, none⟩ = _ := ((gcell hG.1).1 _ _ hbl hbR).trans cb0
     have b1 : w9.cell? ⟨w.heap.size, 1, none⟩ = _ := ((gcell hG.1).1 _ _ hbl hbR).trans cb1
     refine op_value (v := .agg #[.int .i64 p, .int .i64 q]) (w' := w9) rfl rfl (by intro ev ht hc hf; rw [← ht] at P1; simp [execOp, hc, hf, P1, b0, b1, go_sem]) ⟨.inl ⟨_, 56, rfl, rfl, rfl⟩, gr_refl _ _, lineF_same hG zd⟩
   · obtain rfl := Option.some.inj hi
     have P2 := hS.2.2.2 2 _ 56 rfl rfl (hall { on := 2, ground := .data } (by simp) rfl)
     replace P2 : act.eval (.tmp 56) = .agg #[.int .i64 p, .int .i64 q] := P2
     refine op_enter rfl rfl (f := 66) (args := #[pr p q]) (w' := w9) (by intro ev ht hc hf; rw [← ht] at P2; simp [execOp, hc, hf, P2, go_sem, hen1, pr]) ?_
     refine (specWeight_any p q w9).mono ?_
     rintro e w10 ⟨rfl, hb10⟩
     exact ⟨_, rfl, .inl ⟨_, 57, rfl, rfl, rfl⟩, gr_below (gr_refl _ _) hb10, lineF_call hG hRW zd hb10⟩
   · obtain rfl := Option.some.inj hi
     have P3 := hS.2.2.2 3 _ 57 rfl rfl (hall { on := 3, ground := .data } (by simp) rfl)
     replace P3 : act.eval (.tmp 57) = .tuple #[.int .i64 (weightV p q), .bool (pairB p q)] := P3
     refine op_value (v := .int .i64 (weightV p q)) (w' := w9) rfl rfl (by intro ev ht hc hf; rw [← ht] at P3; simp [execOp, hc, hf, P3, go_sem]) ⟨.inl ⟨_, 58, rfl, rfl, rfl⟩, gr_refl _ _, lineF_same hG zd⟩
   · obtain rfl := Option.some.inj hi
     have P3 := hS.2.2.2 3 _ 57 rfl rfl (hall { on := 3, ground := .data } (by simp) rfl)
     replace P3 : act.eval (.tmp 57) = .tuple #[.int .i64 (weightV p q), .bool (pairB p q)] := P3
     refine op_value (v := .bool (pairB p q)) (w' := w9) rfl rfl (by intro ev ht hc hf; rw [← ht] at P3; simp [execOp, hc, hf, P3, go_sem]) ⟨.inl ⟨_, 59, rfl, rfl, rfl⟩, gr_refl _ _, lineF_same hG zd⟩
   · obtain rfl := Option.some.inj hi
     have P4 := hS.2.2.2 4 _ 58 rfl rfl (hall { on := 4, ground := .data } (by simp) rfl)
     replace P4 : act.eval (.tmp 58) = .int .i64 (weightV p q) := P4
     have P5 := hS.2.2.2 5 _ 59 rfl rfl (hall { on := 5, ground := .data } (by simp) rfl)
     replace P5 : act.eval (.tmp 59) = .bool (pairB p q) := P5
     refine op_enter rfl rfl (f := 65) (args := #[.int .i64 (weightV p q), .bool (pairB p q)]) (w' := w9) (by intro ev ht hc hf; rw [← ht] at P4 P5; simp [execOp, hc, hf, P4, P5, go_sem, hen2, pr]) ?_
     refine (htold w9).mono ?_
     rintro e w10 ⟨rfl, hb10⟩
     exact ⟨_, rfl, .inl ⟨_, 60, rfl, rfl, rfl⟩, gr_below (gr_refl _ _) hb10, lineF_call hG hRW zd hb10⟩
   · obtain rfl := Option.some.inj hi
     have e4 : act.eval (.tmp 4) = .pointer (some ⟨w.heap.size + 1, 0, none⟩) := hS.2.2.1 4 (noDst_of (by kernel_rfl))
     have P0 := hS.2.2.2 0 _ 54 rfl rfl (hall { on := 0, ground := .data } (by simp) rfl)
     replace P0 : act.eval (.tmp 54) = .agg #[.int .i64 p, .int .i64 q, .slice a2 L.length c2] := P0
     obtain ⟨_, x9, y9, z9, ⟨c0, c1, c2'⟩, ⟨f0, f1, f2⟩, _⟩ := id hG
     have hG' := lineF_put hG
     have hgr : w9.grownBy (((w9.setCell ⟨w.heap.size + 1, 0, none⟩ (.int .i64 p)).setCell ⟨w.heap.size + 1, 1, none⟩ (.int .i64 q)).setCell ⟨w.heap.size + 1, 2, none⟩ (.slice a2 L.length c2)) (some (w.heap.size + 1)) := ⟨rfl, rfl, rfl, by simp [World.setCell], fun j hj hne => by
       have hne' : j ≠ w.heap.size + 1 := fun e => hne (by rw [e])
       rw [Below.heap_setCell _ _ _ _ hne', Below.heap_setCell _ _ _ _ hne', Below.heap_setCell _ _ _ _ hne']⟩
     refine op_store (w' := ((w9.setCell ⟨w.heap.size + 1, 0, none⟩ (.int .i64 p)).setCell ⟨w.heap.size + 1, 1, none⟩ (.int .i64 q)).setCell ⟨w.heap.size + 1, 2, none⟩ (.slice a2 L.length c2)) rfl rfl rfl (by intro ev ht hc hf; rw [← ht] at e4 P0; simp [execOp, hc, hf, e4, P0, go_sem, c0, c1, c2', f0, f1, f2]; try go_simp) ⟨.inr ⟨rfl, rfl⟩, hgr, hG'⟩
   · obtain rfl := Option.some.inj hi
     have P6 := hS.2.2.2 6 _ 60 rfl rfl (hall { on := 6, ground := .data } (by simp) rfl)
     replace P6 : act.eval (.tmp 60) = .string ans := P6
     refine op_value (v := .string ans) (w' := w9) rfl rfl (by intro ev ht hc hf; rw [← ht] at P6; simp [execOp, hc, hf, P6, go_sem]) ⟨.inl ⟨_, 5, rfl, rfl, rfl⟩, gr_refl _ _, lineF_same hG zd⟩
 case fin =>
   intro listed act w4 hall hS hG
   have e4 : act.tmps.getD 4 undef = .pointer (some ⟨w.heap.size + 1, 0, none⟩) := hS.2.2.1 4 (noDst_of (by kernel_rfl))
   have e5 := hS.2.2.2 8 _ 5 rfl rfl (hall 8 zd)
   replace e5 : act.tmps.getD 5 undef = .string ans := e5
   obtain ⟨hg, x, y, z, ⟨c0, c1, c2'⟩, _, h8⟩ := hG
   obtain ⟨rfl, rfl, rfl⟩ := h8 (hall 7 zd)
   have hB4 : Below w.heap.size w w4 := HBW.out.grown hg HBW.out.size (fun k e => by cases e; omega)
   have HO4 := Lib.hid (own_grows HOW.out hg zO)
   have hd : act.defers = [] := hS.1
   have e4' : act.tmps[4]?.getD undef = .pointer (some ⟨w.heap.size + 1, 0, none⟩) := by rw [← Array.getD_eq_getD_getElem?]; exact e4
   have e5' : act.tmps[5]?.getD undef = .string ans := by rw [← Array.getD_eq_getD_getElem?]; exact e5
   refine hK _ _ ?_
   clear hK K hS hall hg h8 HOW
   go_wp2_with fail
   refine bodyPost_ret (v := .tuple #[.agg #[.int .i64 p, .int .i64 q, .slice a2 L.length c2], .string ans]) (by simp [results, Tryz.results21, go_sem, e4', e5', c0, c1, c2']) hd ?_
   unfold LineS
   rw [HV.out]
   exact ⟨a2, c2, rfl, (IsPairs.of_owns HO4.out).mono (by show w.heap.size ≤ _; omega) (Nat.le_refl _) (Nat.le_refl _), hB4⟩
end
section
open Go.RowKit Go.Shelf
def pairP (bx : Nat) (p q : Int) (a2 : Option Addr) (L : List (Int × Int)) (c2 : Nat) (ans tp tq : ByteArray) (j : Nat) (v : Value) : Prop :=
 match j with
 | 0 => v = .agg #[.int .i64 p, .int .i64 q, .slice a2 L.length c2]
 | 1 => v = .pointer (some ⟨bx, 0, none⟩)
 | 2 => v = .pointer (some ⟨bx, 0, none⟩)
 | 3 => v = .int .i64 p
 | 4 => v = .string tp
 | 5 => v = .string (tp ++ (⟨#[44]⟩ : ByteArray))
 | 6 => v = .pointer (some ⟨bx, 0, none⟩)
 | 7 => v = .pointer (some ⟨bx, 1, none⟩)
 | 8 => v = .int .i64 q
 | 9 => v = .string tq
 | 10 => v = .string ans
 | 12 => v = .string ans
 | _ => True
theorem ansPr {p q : Int} {s : ByteArray} (hw : s.toList = [112, 97, 105, 114]) : ansV p q s.data.toList = pairT p q := by
 rw [bl_toList] at hw
 have e : wordsN [] [112, 97, 105, 114] = [[112, 97, 105, 114]] := by decide
 unfold ansV
 rw [hw, e]
 simp [numsN, askV, ask0, bl_toList, txt_list]
set_option linter.unusedSimpArgs false in
set_option maxRecDepth 100000 in
set_option maxHeartbeats 16000000 in
theorem specLine_pair (B C : Nat) (p q : Int) (L : List (Int × Int)) (v : Value) (s : ByteArray) (w : World) (h : IsPairs B C w v L) (hn : L.length ≤ 1048600) (hs : s.size ≤ 1048600) (hd : deskN ⟨(p, q), L⟩ = true) (hr : readN s.data.toList = none) (hw : s.toList = [112, 97, 105, 114]) (ans : ByteArray) (hans : ansV p q s.data.toList = ans) :
   Calls Tryz.prog 21 #[.agg #[.int .i64 p, .int .i64 q, v], .string s] w (LineS ⟨(p, q), L⟩ s.data.toList w) := by
 have hen1 : ∀ (args : Array Value) (w : World), (callFunc 64 args).run Tryz.prog w = .ok (.enter 64 args) w := enters_of Tryz.func64 (by kernel_rfl) rfl
 have hsm := desk_small hd
 have hnp := fun W => number_any p W hsm.1.1 hsm.1.2
 have hnq := fun W => number_any q W hsm.2.1 hsm.2.2
 have s1 := numberT_size hsm.1
 have s2 := numberT_size hsm.2
 have hta : (txt (numberT p) ++ (⟨#[44]⟩ : ByteArray)) ++ txt (numberT q) = ans := by rw [← hans, ansPr hw]; rfl
 obtain ⟨tp, hp'⟩ : ∃ t, txt (numberT p) = t := ⟨_, rfl⟩
 obtain ⟨tq, hq'⟩ : ∃ t, txt (numberT q) = t := ⟨_, rfl⟩
 rw [hp'] at hta hnp s1
 rw [hq'] at hta hnq s2
 have s3 : (tp ++ (⟨#[44]⟩ : ByteArray)).size = tp.size + 1 := by rw [ByteArray.size_append]; rfl
 have o1 : ¬ 9223372036854775807 < tp.size + 1 := by omega
 have o2 : ¬ 9223372036854775807 < tp.size + 1 + tq.size := by omega
 clear hp' hq'
 have hrd := fun W => specDeedRead_any s W zO
 rw [deedV_none hr] at hrd
 have HV := Lib.hid (show lineV ⟨(p, q), L⟩ s.data.toList = (⟨(p, q), L⟩, ans) by rw [lineV_ask hd hr, hans])
 clear hr hans
 obtain ⟨a, cap, rfl, hC, hs0⟩ := id h
 clear hs0
 have H := Lib.hid h
 have HD := Lib.hid hd
 clear h hd
 go_enter Tryz.func21, Tryz.ntmps21
 go_wp2_with fail
 refine (specDeskOk_any B C p q _ _ _ (H.out.below (show Below w.heap.size w _ by exact zb) hC) hn).mono ?_
 rintro e w1 ⟨rfl, hb1⟩
 obtain ⟨hc1, hf1⟩ := bcell hb1
 have hz1 := hb1.size
 simp at hz1
 have hz1a : w.heap.size < w1.heap.size := by omega
 have hz1b : w.heap.size + 1 < w1.heap.size := by omega
 have HB1 := Lib.hid (show Below w.heap.size w w1 by exact zb)
 rw [HD.out]
 have bx1_0 : w1.cell? ⟨w.heap.size, 0, none⟩ = some (.int .i64 p) := by go_simp
 have bx1_1 : w1.cell? ⟨w.heap.size, 1, none⟩ = some (.int .i64 q) := by go_simp
 have bx1_2 : w1.cell? ⟨w.heap.size, 2, none⟩ = some (.slice a L.length cap) := by go_simp
 have rs1_0 : w1.cell? ⟨w.heap.size + 1, 0, none⟩ = some (.int .i64 0) := by go_simp
 have rf1_0 : w1.frozen? ⟨w.heap.size + 1, 0, none⟩ = false := by go_simp
 have rs1_1 : w1.cell? ⟨w.heap.size + 1, 1, none⟩ = some (.int .i64 0) := by go_simp
 have rf1_1 : w1.frozen? ⟨w.heap.size + 1, 1, none⟩ = false := by go_simp
 have rs1_2 : w1.cell? ⟨w.heap.size + 1, 2, none⟩ = some (.slice none 0 0) := by go_simp
 have rf1_2 : w1.frozen? ⟨w.heap.size + 1, 2, none⟩ = false := by go_simp
 clear hb1 hc1 hf1
 go_wp2_with fail
 refine (specCopy_any B C p q L _ _ (H.out.below HB1.out hC) hn).mono ?_
 rintro e w2 ⟨a2, c2, rfl, hown2, hb2⟩
 dsimp only at hown2 ⊢
 obtain ⟨hc2, hf2⟩ := bcell hb2
 have hz2 := hb2.size
 have hz2a : w.heap.size < w2.heap.size := by omega
 have hz2b : w.heap.size + 1 < w2.heap.size := by omega
 have HB2 := Lib.hid (HB1.out.trans (hb2.mono zO))
 have HO2 := Lib.hid hown2
 have bx2_0 : w2.cell? ⟨w.heap.size, 0, none⟩ = some (.int .i64 p) := by go_simp
 have bx2_1 : w2.cell? ⟨w.heap.size, 1, none⟩ = some (.int .i64 q) := by go_simp
 have bx2_2 : w2.cell? ⟨w.heap.size, 2, none⟩ = some (.slice a L.length cap) := by go_simp
 have rs2_0 : w2.cell? ⟨w.heap.size + 1, 0, none⟩ = some (.int .i64 0) := by go_simp
 have rf2_0 : w2.frozen? ⟨w.heap.size + 1, 0, none⟩ = false := by go_simp
 have rs2_1 : w2.cell? ⟨w.heap.size + 1, 1, none⟩ = some (.int .i64 0) := by go_simp
 have rf2_1 : w2.frozen? ⟨w.heap.size + 1, 1, none⟩ = false := by go_simp
 have rs2_2 : w2.cell? ⟨w.heap.size + 1, 2, none⟩ = some (.slice none 0 0) := by go_simp
 have rf2_2 : w2.frozen? ⟨w.heap.size + 1, 2, none⟩ = false := by go_simp
 clear hb2 hc2 hf2 hown2
 go_wp2_with fail
 refine (hrd _).mono ?_
 rintro e w3 ⟨rfl, hb3⟩
 dsimp only
 obtain ⟨hc3, hf3⟩ := bcell hb3
 have hz3 := hb3.size
 simp at hz3
 have hz3a : w.heap.size < w3.heap.size := by omega
 have hz3b : w.heap.size + 1 < w3.heap.size := by omega
 have hz3c : w2.heap.size < w3.heap.size := by omega
 have HB3 := Lib.hid (show Below w.heap.size w w3 from (HB2.out.alloc zO _).trans (hb3.mono (by simp; omega)))
 have bx3_0 : w3.cell? ⟨w.heap.size, 0, none⟩ = some (.int .i64 p) := by go_simp
 have bx3_1 : w3.cell? ⟨w.heap.size, 1, none⟩ = some (.int .i64 q) := by go_simp
 have bx3_2 : w3.cell? ⟨w.heap.size, 2, none⟩ = some (.slice a L.length cap) := by go_simp
 have rs3_0 : w3.cell? ⟨w.heap.size + 1, 0, none⟩ = some (.int .i64 0) := by go_simp
 have rf3_0 : w3.frozen? ⟨w.heap.size + 1, 0, none⟩ = false := by go_simp
 have rs3_1 : w3.cell? ⟨w.heap.size + 1, 1, none⟩ = some (.int .i64 0) := by go_simp
 have rf3_1 : w3.frozen? ⟨w.heap.size + 1, 1, none⟩ = false := by go_simp
 have rs3_2 : w3.cell? ⟨w.heap.size + 1, 2, none⟩ = some (.slice none 0 0) := by go_simp
 have rf3_2 : w3.frozen? ⟨w.heap.size + 1, 2, none⟩ = false := by go_simp
 have t3_0 : w3.cell? ⟨w2.heap.size, 0, none⟩ = some (.int .i64 p) := by go_simp
 have t3_1 : w3.cell? ⟨w2.heap.size, 1, none⟩ = some (.int .i64 q) := by go_simp
 have t3_2 : w3.cell? ⟨w2.heap.size, 2, none⟩ = some (.slice a2 L.length c2) := by go_simp
 have HO3 := Lib.hid (own_keeps (HO2.out.alloc (.cells #[.int .i64 p, .int .i64 q, .slice a2 L.length c2] 32)) hb3)
 clear hb3 hc3 hf3
 go_wp2_with fail
 rename_i K hK
 refine region_namedD ?_
 intro W hW
 have HBW := Lib.hid (show Below w.heap.size w W by rw [hW]; exact HB3.out.alloc zO _)
 have cb0 : W.cell? ⟨w.heap.size, 0, none⟩ = some (.int .i64 p) := by rw [hW]; go_simp
 have cb1 : W.cell? ⟨w.heap.size, 1, none⟩ = some (.int .i64 q) := by rw [hW]; go_simp
 have ct0 : W.cell? ⟨w2.heap.size, 0, none⟩ = some (.int .i64 p) := by rw [hW]; go_simp
 have ct1 : W.cell? ⟨w2.heap.size, 1, none⟩ = some (.int .i64 q) := by rw [hW]; go_simp
 have ct2 : W.cell? ⟨w2.heap.size, 2, none⟩ = some (.slice a2 L.length c2) := by rw [hW]; go_simp
 have r0 : W.cell? ⟨w.heap.size + 1, 0, none⟩ = some (.int .i64 0) := by rw [hW]; go_simp
 have r1 : W.cell? ⟨w.heap.size + 1, 1, none⟩ = some (.int .i64 0) := by rw [hW]; go_simp
 have r2 : W.cell? ⟨w.heap.size + 1, 2, none⟩ = some (.slice none 0 0) := by rw [hW]; go_simp
 have g0 : W.frozen? ⟨w.heap.size + 1, 0, none⟩ = false := by rw [hW]; go_simp
 have g1 : W.frozen? ⟨w.heap.size + 1, 1, none⟩ = false := by rw [hW]; go_simp
 have g2 : W.frozen? ⟨w.heap.size + 1, 2, none⟩ = false := by rw [hW]; go_simp
 have hbl : w.heap.size < W.heap.size := World.block_lt_of_cell? W _ cb0
 have htl : w2.heap.size < W.heap.size := World.block_lt_of_cell? W _ ct0
 have hRW : w.heap.size + 1 < W.heap.size := World.block_lt_of_cell? W _ r0
 have hbR : w.heap.size ≠ w.heap.size + 1 := by omega
 have htR : w2.heap.size ≠ w.heap.size + 1 := by omega
 have HOW := Lib.hid (show W.ownsRow w1.heap.size 29 2 (.slice a2 L.length c2) L.length (pairCells L) by rw [hW]; exact HO3.out.alloc _)
 clear hW bx1_0 bx1_1 bx1_2 rs1_0 rs1_1 rs1_2 rf1_0 rf1_1 rf1_2 bx2_0 bx2_1 bx2_2 rs2_0 rs2_1 rs2_2 rf2_0 rf2_1 rf2_2 bx3_0 bx3_1 bx3_2 rs3_0 rs3_1 rs3_2 rf3_0 rf3_1 rf3_2 t3_0 t3_1 t3_2
 refine wp_region_stores (PP := fun j u _ => pairP w.heap.size p q a2 L c2 ans tp tq j u) (Grow := fun u u' => u.grownBy u' (some (w.heap.size + 1))) (G := lineF W (w.heap.size + 1) 11 p q (.slice a2 L.length c2)) (by kernel_rfl) (dis_of2 (by kernel_rfl)) (b_of (by kernel_rfl)) (back_of (by kernel_rfl)) (fun _ _ _ _ _ hp => hp) ⟨gr_drew (gr_refl _ _), _, _, _, ⟨r0, r1, r2⟩, ⟨g0, g1, g2⟩, fun h => by simp [Array.getD_eq_getD_getElem?] at h⟩ ?step ?fin
 case step =>
   intro i o hi listed act w9 hS hG hall hl
   have hin : i < 13 := (Array.getElem?_eq_some_iff.1 hi).1
   rcases (show i = 0 ∨ i = 1 ∨ i = 2 ∨ i = 3 ∨ i = 4 ∨ i = 5 ∨ i = 6 ∨ i = 7 ∨ i = 8 ∨ i = 9 ∨ i = 10 ∨ i = 11 ∨ i = 12 by omega) with rfl | rfl | rfl | rfl | rfl | rfl | rfl | rfl | rfl | rfl | rfl | rfl | rfl
   · obtain rfl := Option.some.inj hi
     have e6 : act.eval (.tmp 6) = .pointer (some ⟨w2.heap.size, 0, none⟩) := hS.2.2.1 6 (noDst_of (by kernel_rfl))
     have t0 : w9.cell? ⟨w2.heap.size, 0, none⟩ = _ := ((gcell hG.1).1 _ _ htl htR).trans ct0
     have t1 : w9.cell? ⟨w2.heap.size, 1, none⟩ = _ := ((gcell hG.1).1 _ _ htl htR).trans ct1
     have t2 : w9.cell? ⟨w2.heap.size, 2, none⟩ = _ := ((gcell hG.1).1 _ _ htl htR).trans ct2
     refine op_value (v := .agg #[.int .i64 p, .int .i64 q, .slice a2 L.length c2]) (w' := w9) rfl rfl (by intro ev ht hc hf; rw [← ht] at e6; simp [execOp, hc, hf, e6, t0, t1, t2, go_sem]) ⟨.inl ⟨_, 41, rfl, rfl, rfl⟩, gr_refl _ _, lineF_same hG zd⟩
   · obtain rfl := Option.some.inj hi
     have e2 : act.eval (.tmp 2) = .pointer (some ⟨w.heap.size, 0, none⟩) := hS.2.2.1 2 (noDst_of (by kernel_rfl))
     refine op_value (v := .pointer (some ⟨w.heap.size, 0, none⟩)) (w' := w9) rfl rfl (by intro ev ht hc hf; rw [← ht] at e2; simp [execOp, hc, hf, e2, go_sem]) ⟨.inl ⟨_, 42, rfl, rfl, rfl⟩, gr_refl _ _, lineF_same hG zd⟩
   · obtain rfl := Option.some.inj hi
     have P1 := hS.2.2.2 1 _ 42 rfl rfl (hall { on := 1, ground := .data } (by simp) rfl)
     replace P1 : act.eval (.tmp 42) = .pointer (some ⟨w.heap.size, 0, none⟩) := P1
     refine op_value (v := .pointer (some ⟨w.heap.size, 0, none⟩)) (w' := w9) rfl rfl (by intro ev ht hc hf; rw [← ht] at P1; simp [execOp, hc, hf, P1, go_sem]) ⟨.inl ⟨_, 43, rfl, rfl, rfl⟩, gr_refl _ _, lineF_same hG zd⟩
   · obtain rfl := Option.some.inj hi
     have P2 := hS.2.2.2 2 _ 43 rfl rfl (hall { on := 2, ground := .data } (by simp) rfl)
     replace P2 : act.eval (.tmp 43) = .pointer (some ⟨w.heap.size, 0, none⟩) := P2
     have b0 : w9.cell? ⟨w.heap.size, 0, none⟩ = _ := ((gcell hG.1).1 _ _ hbl hbR).trans cb0
     refine op_value (v := .int .i64 p) (w' := w9) rfl rfl (by intro ev ht hc hf; rw [← ht] at P2; simp [execOp, hc, hf, P2, b0, go_sem]) ⟨.inl ⟨_, 44, rfl, rfl, rfl⟩, gr_refl _ _, lineF_same hG zd⟩
   · obtain rfl := Option.some.inj hi
     have P3 := hS.2.2.2 3 _ 44 rfl rfl (hall { on := 3, ground := .data } (by simp) rfl)
     replace P3 : act.eval (.tmp 44) = .int .i64 p := P3
     refine op_enter rfl rfl (f := 64) (args := #[.int .i64 p]) (w' := w9) (by intro ev ht hc hf; rw [← ht] at P3; simp [execOp, hc, hf, P3, go_sem, hen1, pr]) ?_
     refine (hnp w9).mono ?_
     rintro e w10 ⟨rfl, hb10⟩
     exact ⟨_, rfl, .inl ⟨_, 45, rfl, rfl, rfl⟩, gr_below (gr_refl _ _) hb10, lineF_call hG hRW zd hb10⟩
   · obtain rfl := Option.some.inj hi
     have P4 := hS.2.2.2 4 _ 45 rfl rfl (hall { on := 4, ground := .data } (by simp) rfl)
     replace P4 : act.eval (.tmp 45) = .string tp := P4
     refine op_value (v := .string (tp ++ (⟨#[44]⟩ : ByteArray))) (w' := w9) rfl rfl (by intro ev ht hc hf; rw [← ht] at P4; simp [execOp, hc, hf, P4, go_sem, o1]) ⟨.inl ⟨_, 46, rfl, rfl, rfl⟩, gr_refl _ _, lineF_same hG zd⟩
   · obtain rfl := Option.some.inj hi
     have e2 : act.eval (.tmp 2) = .pointer (some ⟨w.heap.size, 0, none⟩) := hS.2.2.1 2 (noDst_of (by kernel_rfl))
     refine op_value (v := .pointer (some ⟨w.heap.size, 0, none⟩)) (w' := w9) rfl rfl (by intro ev ht hc hf; rw [← ht] at e2; simp [execOp, hc, hf, e2, go_sem]) ⟨.inl ⟨_, 47, rfl, rfl, rfl⟩, gr_refl _ _, lineF_same hG zd⟩
   · obtain rfl := Option.some.inj hi
     have P6 := hS.2.2.2 6 _ 47 rfl rfl (hall { on := 6, ground := .data } (by simp) rfl)
     replace P6 : act.eval (.tmp 47) = .pointer (some ⟨w.heap.size, 0, none⟩) := P6
     refine op_value (v := .pointer (some ⟨w.heap.size, 1, none⟩)) (w' := w9) rfl rfl (by intro ev ht hc hf; rw [← ht] at P6; simp [execOp, hc, hf, P6, go_sem]) ⟨.inl ⟨_, 48, rfl, rfl, rfl⟩, gr_refl _ _, lineF_same hG zd⟩
   · obtain rfl := Option.some.inj hi
     have P7 := hS.2.2.2 7 _ 48 rfl rfl (hall { on := 7, ground := .data } (by simp) rfl)
     replace P7 : act.eval (.tmp 48) = .pointer (some ⟨w.heap.size, 1, none⟩) := P7
     have b1 : w9.cell? ⟨w.heap.size, 1, none⟩ = _ := ((gcell hG.1).1 _ _ hbl hbR).trans cb1
     refine op_value (v := .int .i64 q) (w' := w9) rfl rfl (by intro ev ht hc hf; rw [← ht] at P7; simp [execOp, hc, hf, P7, b1, go_sem]) ⟨.inl ⟨_, 49, rfl, rfl, rfl⟩, gr_refl _ _, lineF_same hG zd⟩
   · obtain rfl := Option.some.inj hi
     have P8 := hS.2.2.2 8 _ 49 rfl rfl (hall { on := 8, ground := .data } (by simp) rfl)
     replace P8 : act.eval (.tmp 49) = .int .i64 q := P8
     refine op_enter rfl rfl (f := 64) (args := #[.int .i64 q]) (w' := w9) (by intro ev ht hc hf; rw [← ht] at P8; simp [execOp, hc, hf, P8, go_sem, hen1, pr]) ?_
     refine (hnq w9).mono ?_
     rintro e w10 ⟨rfl, hb10⟩
     exact ⟨_, rfl, .inl ⟨_, 50, rfl, rfl, rfl⟩, gr_below (gr_refl _ _) hb10, lineF_call hG hRW zd hb10⟩
   · obtain rfl := Option.some.inj hi
     have P5 := hS.2.2.2 5 _ 46 rfl rfl (hall { on := 5, ground := .data } (by simp) rfl)
     replace P5 : act.eval (.tmp 46) = .string (tp ++ (⟨#[44]⟩ : ByteArray)) := P5
     have P9 := hS.2.2.2 9 _ 50 rfl rfl (hall { on := 9, ground := .data } (by simp) rfl)
     replace P9 : act.eval (.tmp 50) = .string tq := P9
     refine op_value (v := .string ans) (w' := w9) rfl rfl (by intro ev ht hc hf; rw [← ht] at P5 P9; simp [execOp, hc, hf, P5, P9, go_sem, o2, hta, s3]) ⟨.inl ⟨_, 51, rfl, rfl, rfl⟩, gr_refl _ _, lineF_same hG zd⟩
   · obtain rfl := Option.some.inj hi
     have e4 : act.eval (.tmp 4) = .pointer (some ⟨w.heap.size + 1, 0, none⟩) := hS.2.2.1 4 (noDst_of (by kernel_rfl))
     have P0 := hS.2.2.2 0 _ 41 rfl rfl (hall { on := 0, ground := .data } (by simp) rfl)
     replace P0 : act.eval (.tmp 41) = .agg #[.int .i64 p, .int .i64 q, .slice a2 L.length c2] := P0
     obtain ⟨_, x9, y9, z9, ⟨c0, c1, c2'⟩, ⟨f0, f1, f2⟩, _⟩ := id hG
     have hG' := lineF_put hG
     have hgr : w9.grownBy (((w9.setCell ⟨w.heap.size + 1, 0, none⟩ (.int .i64 p)).setCell ⟨w.heap.size + 1, 1, none⟩ (.int .i64 q)).setCell ⟨w.heap.size + 1, 2, none⟩ (.slice a2 L.length c2)) (some (w.heap.size + 1)) := ⟨rfl, rfl, rfl, by simp [World.setCell], fun j hj hne => by
       have hne' : j ≠ w.heap.size + 1 := fun e => hne (by rw [e])
       rw [Below.heap_setCell _ _ _ _ hne', Below.heap_setCell _ _ _ _ hne', Below.heap_setCell _ _ _ _ hne']⟩
     refine op_store (w' := ((w9.setCell ⟨w.heap.size + 1, 0, none⟩ (.int .i64 p)).setCell ⟨w.heap.size + 1, 1, none⟩ (.int .i64 q)).setCell ⟨w.heap.size + 1, 2, none⟩ (.slice a2 L.length c2)) rfl rfl rfl (by intro ev ht hc hf; rw [← ht] at e4 P0; simp [execOp, hc, hf, e4, P0, go_sem, c0, c1, c2', f0, f1, f2]; try go_simp) ⟨.inr ⟨rfl, rfl⟩, hgr, hG'⟩
   · obtain rfl := Option.some.inj hi
     have P10 := hS.2.2.2 10 _ 51 rfl rfl (hall { on := 10, ground := .data } (by simp) rfl)
     replace P10 : act.eval (.tmp 51) = .string ans := P10
     refine op_value (v := .string ans) (w' := w9) rfl rfl (by intro ev ht hc hf; rw [← ht] at P10; simp [execOp, hc, hf, P10, go_sem]) ⟨.inl ⟨_, 5, rfl, rfl, rfl⟩, gr_refl _ _, lineF_same hG zd⟩
 case fin =>
   intro listed act w4 hall hS hG
   have e4 : act.tmps.getD 4 undef = .pointer (some ⟨w.heap.size + 1, 0, none⟩) := hS.2.2.1 4 (noDst_of (by kernel_rfl))
   have e5 := hS.2.2.2 12 _ 5 rfl rfl (hall 12 zd)
   replace e5 : act.tmps.getD 5 undef = .string ans := e5
   obtain ⟨hg, x, y, z, ⟨c0, c1, c2'⟩, _, h8⟩ := hG
   obtain ⟨rfl, rfl, rfl⟩ := h8 (hall 11 zd)
   have hB4 : Below w.heap.size w w4 := HBW.out.grown hg HBW.out.size (fun k e => by cases e; omega)
   have HO4 := Lib.hid (own_grows HOW.out hg zO)
   have hd : act.defers = [] := hS.1
   have e4' : act.tmps[4]?.getD undef = .pointer (some ⟨w.heap.size + 1, 0, none⟩) := by rw [← Array.getD_eq_getD_getElem?]; exact e4
   have e5' : act.tmps[5]?.getD undef = .string ans := by rw [← Array.getD_eq_getD_getElem?]; exact e5
   refine hK _ _ ?_
   clear hK K hS hall hg h8 HOW
   go_wp2_with fail
   refine bodyPost_ret (v := .tuple #[.agg #[.int .i64 p, .int .i64 q, .slice a2 L.length c2], .string ans]) (by simp [results, Tryz.results21, go_sem, e4', e5', c0, c1, c2']) hd ?_
   unfold LineS
   rw [HV.out]
   exact ⟨a2, c2, rfl, (IsPairs.of_owns HO4.out).mono (by show w.heap.size ≤ _; omega) (Nat.le_refl _) (Nat.le_refl _), hB4⟩
end
section
open Go.RowKit Go.Shelf
theorem ints_grown {B C R n : Nat} {w w' : World} {v : Value} {f : Nat → Int} (h : IsInts B C w v n f) (hg : w.grownBy w' (some R)) (hR : R < B) : IsInts B C w' v n f := by
 obtain ⟨a, cap, rfl, hC, hs⟩ := h
 refine ⟨a, cap, rfl, Nat.le_trans hC hg.size, ?_⟩
 rcases hs with hs | ⟨g, off, ha, h1, h2, hc, hf⟩
 · exact .inl hs
 · exact .inr ⟨g, off, ha, h1, h2, fun i hi => ((gcell hg).1 g _ zO zO).trans (hc i hi), fun i hi => ((gcell hg).2 g _ zO zO).trans (hf i hi)⟩
theorem numsW_next {W : List (List UInt8)} {i : Nat} {ns : List Nat} {n : Nat} (h1 : 1 ≤ i) (hi : i < W.length) (h : numsN ((W.drop 1).take (i - 1)) = some ns) (hd : digitsN (W.getD i []) = some n) : numsN ((W.drop 1).take (i + 1 - 1)) = some (ns ++ [n]) := by
 have hl : i - 1 < (W.drop 1).length := by rw [List.length_drop]; omega
 rw [show i + 1 - 1 = (i - 1) + 1 by omega, List.take_succ_eq_append_getElem hl, numsN_snoc, h]
 have e : (W.drop 1)[i - 1] = W.getD i [] := by
   rw [List.getElem_drop]
   simp [show 1 + (i - 1) = i by omega, hi]
 rw [e, hd]
 rfl
theorem numsW_none {W : List (List UInt8)} {i : Nat} (h1 : 1 ≤ i) (hi : i < W.length) (hd : digitsN (W.getD i []) = none) : numsN (W.drop 1) = none := by
 refine numsN_none (s := W.getD i []) ?_ hd
 refine List.mem_of_getElem? (i := i - 1) ?_
 rw [List.getElem?_drop]
 simp [show 1 + (i - 1) = i by omega, hi]
def wordsP (bx : Nat) (p q : Int) (a2 : Option Addr) (L : List (Int × Int)) (c2 : Nat) (ans : ByteArray) (gw Wn cw : Nat) (w0 : ByteArray) (a9 : Option Addr) (ns : List Nat) (c9 : Nat) (j : Nat) (v : Value) : Prop :=
 match j with
 | 0 => v = .agg #[.int .i64 p, .int .i64 q, .slice a2 L.length c2]
 | 1 => v = .pointer (some ⟨bx, 0, none⟩)
 | 2 => v = .agg #[.int .i64 p, .int .i64 q]
 | 3 => v = .slice (some ⟨gw, 0, none⟩) Wn cw
 | 4 => v = .pointer (some ⟨gw, 0, none⟩)
 | 5 => v = .string w0
 | 6 => v = .slice a9 ns.length c9
 | 7 => v = .string ans
 | 9 => v = .string ans
 | _ => True
set_option linter.unusedSimpArgs false in
set_option maxRecDepth 100000 in
set_option maxHeartbeats 16000000 in
theorem specLine_words (B C : Nat) (p q : Int) (L : List (Int × Int)) (v : Value) (s : ByteArray) (w : World) (h : IsPairs B C w v L) (hn : L.length ≤ 1048600) (hs : s.size ≤ 1048600) (hd : deskN ⟨(p, q), L⟩ = true) (hr : readN s.data.toList = none) (hw1 : ¬ s.toList = [112, 97, 105, 114]) (hw2 : ¬ s.toList = [119, 101, 105, 103, 104, 116])
   (hasks : ∀ (ns : List Nat) (W : World) (B C : Nat) (u : Value), numsN ((wordsN [] s.data.toList).drop 1) = some ns → IsInts B C W u ns.length (fun i => ((ns.getD i 0 : Nat) : Int)) → Calls Tryz.prog 69 #[pr p q, .string (txt ((wordsN [] s.data.toList).getD 0 [])), u] W fun e w' => e = .returned (.string (ansV p q s.data.toList)) ∧ Below W.heap.size W w') :
   Calls Tryz.prog 21 #[.agg #[.int .i64 p, .int .i64 q, v], .string s] w (LineS ⟨(p, q), L⟩ s.data.toList w) := by
 have hen1 : ∀ (args : Array Value) (w : World), (callFunc 69 args).run Tryz.prog w = .ok (.enter 69 args) w := enters_of Tryz.func69 (by kernel_rfl) rfl
 obtain ⟨i0, hi0, hz0, hzs1, hz2i⟩ := info_parts info_num
 have hrd := fun W => specDeedRead_any s W zO
 rw [deedV_none hr] at hrd
 have HASKS := Lib.hid hasks
 have HV0 := Lib.hid (show lineV ⟨(p, q), L⟩ s.data.toList = (⟨(p, q), L⟩, ansV p q s.data.toList) by rw [lineV_ask hd hr])
 have hcut := fun W => cut_any s W zO
 have hsl : s.data.toList.length = s.size := bl_size s
 have hwl := words_len s.data.toList []
 have hwp := words_pos s.data.toList
 have hwz := fun i => word_size s.data.toList i
 have HANS := Lib.hid (show ∀ x, numsN ((wordsN [] s.data.toList).drop 1) = x → ansV p q s.data.toList = (match x with | some ns => askV p q (txt ((wordsN [] s.data.toList).getD 0 [])) ns | none => whatT) from fun x hx => by unfold ansV; rw [hx]; cases x <;> rfl)
 obtain ⟨ws, hws⟩ : ∃ ws, wordsN [] s.data.toList = ws := ⟨_, rfl⟩
 simp only [hws] at HASKS hcut hwl hwp hwz HANS
 have HCUT := Lib.hid hcut
 have HWZ := Lib.hid hwz
 clear hr hasks hcut hwz hws
 obtain ⟨a, cap, rfl, hC, hs0⟩ := id h
 clear hs0
 have H := Lib.hid h
 have HD := Lib.hid hd
 clear h hd
 go_enter Tryz.func21, Tryz.ntmps21
 go_wp2_with fail
 refine (specDeskOk_any B C p q _ _ _ (H.out.below (show Below w.heap.size w _ by exact zb) hC) hn).mono ?_
 rintro e w1 ⟨rfl, hb1⟩
 obtain ⟨hc1, hf1⟩ := bcell hb1
 have hz1 := hb1.size
 simp at hz1
 have hz1a : w.heap.size < w1.heap.size := by omega
 have hz1b : w.heap.size + 1 < w1.heap.size := by omega
 have HB1 := Lib.hid (show Below w.heap.size w w1 by exact zb)
 rw [HD.out]
 have bx1_0 : w1.cell? ⟨w.heap.size, 0, none⟩ = some (.int .i64 p) := by go_simp
 have bx1_1 : w1.cell? ⟨w.heap.size, 1, none⟩ = some (.int .i64 q) := by go_simp
 have bx1_2 : w1.cell? ⟨w.heap.size, 2, none⟩ = some (.slice a L.length cap) := by go_simp
 have rs1_0 : w1.cell? ⟨w.heap.size + 1, 0, none⟩ = some (.int .i64 0) := by go_simp
 have rf1_0 : w1.frozen? ⟨w.heap.size + 1, 0, none⟩ = false := by go_simp
 have rs1_1 : w1.cell? ⟨w.heap.size + 1, 1, none⟩ = some (.int .i64 0) := by go_simp
 have rf1_1 : w1.frozen? ⟨w.heap.size + 1, 1, none⟩ = false := by go_simp
 have rs1_2 : w1.cell? ⟨w.heap.size + 1, 2, none⟩ = some (.slice none 0 0) := by go_simp
 have rf1_2 : w1.frozen? ⟨w.heap.size + 1, 2, none⟩ = false := by go_simp
 clear hb1 hc1 hf1
 go_wp2_with fail
 refine (specCopy_any B C p q L _ _ (H.out.below HB1.out hC) hn).mono ?_
 rintro e w2 ⟨a2, c2, rfl, hown2, hb2⟩
 dsimp only at hown2 ⊢
 obtain ⟨hc2, hf2⟩ := bcell hb2
 have hz2 := hb2.size
 have hz2a : w.heap.size < w2.heap.size := by omega
 have hz2b : w.heap.size + 1 < w2.heap.size := by omega
 have HB2 := Lib.hid (HB1.out.trans (hb2.mono zO))
 have HO2 := Lib.hid hown2
 have bx2_0 : w2.cell? ⟨w.heap.size, 0, none⟩ = some (.int .i64 p) := by go_simp
 have bx2_1 : w2.cell? ⟨w.heap.size, 1, none⟩ = some (.int .i64 q) := by go_simp
 have bx2_2 : w2.cell? ⟨w.heap.size, 2, none⟩ = some (.slice a L.length cap) := by go_simp
 have rs2_0 : w2.cell? ⟨w.heap.size + 1, 0, none⟩ = some (.int .i64 0) := by go_simp
 have rf2_0 : w2.frozen? ⟨w.heap.size + 1, 0, none⟩ = false := by go_simp
 have rs2_1 : w2.cell? ⟨w.heap.size + 1, 1, none⟩ = some (.int .i64 0) := by go_simp
 have rf2_1 : w2.frozen? ⟨w.heap.size + 1, 1, none⟩ = false := by go_simp
 have rs2_2 : w2.cell? ⟨w.heap.size + 1, 2, none⟩ = some (.slice none 0 0) := by go_simp
 have rf2_2 : w2.frozen? ⟨w.heap.size + 1, 2, none⟩ = false := by go_simp
 clear hb2 hc2 hf2 hown2
 go_wp2_with fail
 refine (hrd _).mono ?_
 rintro e w3 ⟨rfl, hb3⟩
 dsimp only
 obtain ⟨hc3, hf3⟩ := bcell hb3
 have hz3 := hb3.size
 simp at hz3
 have hz3a : w.heap.size < w3.heap.size := by omega
 have hz3b : w.heap.size + 1 < w3.heap.size := by omega
 have hz3c : w2.heap.size < w3.heap.size := by omega
 have HB3 := Lib.hid (show Below w.heap.size w w3 from (HB2.out.alloc zO _).trans (hb3.mono (by simp; omega)))
 have bx3_0 : w3.cell? ⟨w.heap.size, 0, none⟩ = some (.int .i64 p) := by go_simp
 have bx3_1 : w3.cell? ⟨w.heap.size, 1, none⟩ = some (.int .i64 q) := by go_simp
 have bx3_2 : w3.cell? ⟨w.heap.size, 2, none⟩ = some (.slice a L.length cap) := by go_simp
 have rs3_0 : w3.cell? ⟨w.heap.size + 1, 0, none⟩ = some (.int .i64 0) := by go_simp
 have rf3_0 : w3.frozen? ⟨w.heap.size + 1, 0, none⟩ = false := by go_simp
 have rs3_1 : w3.cell? ⟨w.heap.size + 1, 1, none⟩ = some (.int .i64 0) := by go_simp
 have rf3_1 : w3.frozen? ⟨w.heap.size + 1, 1, none⟩ = false := by go_simp
 have rs3_2 : w3.cell? ⟨w.heap.size + 1, 2, none⟩ = some (.slice none 0 0) := by go_simp
 have rf3_2 : w3.frozen? ⟨w.heap.size + 1, 2, none⟩ = false := by go_simp
 have t3_0 : w3.cell? ⟨w2.heap.size, 0, none⟩ = some (.int .i64 p) := by go_simp
 have t3_1 : w3.cell? ⟨w2.heap.size, 1, none⟩ = some (.int .i64 q) := by go_simp
 have t3_2 : w3.cell? ⟨w2.heap.size, 2, none⟩ = some (.slice a2 L.length c2) := by go_simp
 have HO3 := Lib.hid (own_keeps (HO2.out.alloc (.cells #[.int .i64 p, .int .i64 q, .slice a2 L.length c2] 32)) hb3)
 clear hb3 hc3 hf3
 have hw1b : (s.toList == [112, 97, 105, 114]) = false := beq_eq_false_iff_ne.2 hw1
 have hw2b : (s.toList == [119, 101, 105, 103, 104, 116]) = false := beq_eq_false_iff_ne.2 hw2
 go_wp2_with fail
 refine (HCUT.out _).mono ?_
 rintro e w4 ⟨gw, cw, rfl, ⟨hg1, hg2⟩, hcs, hb4⟩
 obtain ⟨hc4, hf4⟩ := bcell hb4
 have hz4 := hb4.size
 simp at hz4 hg1
 have hz4a : w.heap.size < w4.heap.size := by omega
 have hz4b : w.heap.size + 1 < w4.heap.size := by omega
 have hz4c : w2.heap.size < w4.heap.size := by omega
 have HB4 := Lib.hid (show Below w.heap.size w w4 from (HB3.out.alloc zO _).trans (hb4.mono (by simp; omega)))
 have bx4_0 : w4.cell? ⟨w.heap.size, 0, none⟩ = some (.int .i64 p) := by go_simp
 have bx4_1 : w4.cell? ⟨w.heap.size, 1, none⟩ = some (.int .i64 q) := by go_simp
 have bx4_2 : w4.cell? ⟨w.heap.size, 2, none⟩ = some (.slice a L.length cap) := by go_simp
 have rs4_0 : w4.cell? ⟨w.heap.size + 1, 0, none⟩ = some (.int .i64 0) := by go_simp
 have rf4_0 : w4.frozen? ⟨w.heap.size + 1, 0, none⟩ = false := by go_simp
 have rs4_1 : w4.cell? ⟨w.heap.size + 1, 1, none⟩ = some (.int .i64 0) := by go_simp
 have rf4_1 : w4.frozen? ⟨w.heap.size + 1, 1, none⟩ = false := by go_simp
 have rs4_2 : w4.cell? ⟨w.heap.size + 1, 2, none⟩ = some (.slice none 0 0) := by go_simp
 have rf4_2 : w4.frozen? ⟨w.heap.size + 1, 2, none⟩ = false := by go_simp
 have t4_0 : w4.cell? ⟨w2.heap.size, 0, none⟩ = some (.int .i64 p) := by go_simp
 have t4_1 : w4.cell? ⟨w2.heap.size, 1, none⟩ = some (.int .i64 q) := by go_simp
 have t4_2 : w4.cell? ⟨w2.heap.size, 2, none⟩ = some (.slice a2 L.length c2) := by go_simp
 have HO4 := Lib.hid (own_keeps (HO3.out.alloc (.cells #[.int .i64 0, .int .i64 0, .int .i64 0] 40)) hb4)
 have HCS := Lib.hid hcs
 have HM := Lib.hid (show (w4.alloc (.cells #[] 3)).ownsRow w4.heap.size 3 1 (.slice (some ⟨w4.heap.size, 0, none⟩) 0 0) 0 [] from World.ownsRow_made w4 #[] 0 (Nat.le_refl _) (by unfold maxLen; omega) rfl)
 obtain ⟨Wn, hWn⟩ : ∃ Wn, ws.length = Wn := ⟨_, rfl⟩
 rw [hWn] at hwl hwp ⊢
 have HWN := Lib.hid hWn
 clear hb4 hc4 hf4 hcs hWn
 go_wp2_with fail
 go_loopw [12, 13] (fun x12 x13 wr => ∃ (i : Nat) (ns : List Nat) (a9 : Option Addr) (c9 : Nat), x12 = .slice a9 ns.length c9 ∧ x13 = .int .i64 i ∧ 1 ≤ i ∧ i ≤ Wn ∧ ns.length ≤ i ∧ numsN ((ws.drop 1).take (i - 1)) = some ns ∧ wr.ownsRow w4.heap.size 3 1 (.slice a9 ns.length c9) ns.length (natCells ns) ∧ Below w4.heap.size w4 wr) (fun _ x13 _ => Wn - (intOf x13).toNat)
 case atStart => exact ⟨1, [], _, _, rfl, rfl, Nat.le_refl _, hwp, by simp, rfl, HM.out, (Below.refl _ _).alloc (Nat.le_refl _) _⟩
 case round =>
   obtain ⟨i, ns, a9, c9, rfl, rfl, hi1, hi, hns, hN, hO, hB⟩ := hrel
   have hz5 := hB.size
   obtain ⟨hcr, hfr⟩ := bcell hB
   have bxr_0 := (hcr w.heap.size 0 zO).trans bx4_0
   have rsr_0 := (hcr (w.heap.size + 1) 0 zO).trans rs4_0
   have rfr_0 := (hfr (w.heap.size + 1) 0 zO).trans rf4_0
   have tr_0 := (hcr w2.heap.size 0 zO).trans t4_0
   have bxr_1 := (hcr w.heap.size 1 zO).trans bx4_1
   have rsr_1 := (hcr (w.heap.size + 1) 1 zO).trans rs4_1
   have rfr_1 := (hfr (w.heap.size + 1) 1 zO).trans rf4_1
   have tr_1 := (hcr w2.heap.size 1 zO).trans t4_1
   have bxr_2 := (hcr w.heap.size 2 zO).trans bx4_2
   have rsr_2 := (hcr (w.heap.size + 1) 2 zO).trans rs4_2
   have rfr_2 := (hfr (w.heap.size + 1) 2 zO).trans rf4_2
   have tr_2 := (hcr w2.heap.size 2 zO).trans t4_2
   have HOR := Lib.hid (own_keeps HO4.out hB)
   have HBR := Lib.hid (HB4.out.trans (hB.mono zO))
   have HB := Lib.hid hB
   have HO := Lib.hid hO
   have HN := Lib.hid hN
   have hlk := hO.lt
   by_cases hlt : i < Wn
   · have hil : (i : Int) < (Wn : Int) := by omega
     have hi0' : (0 : Int) ≤ (i : Int) := by omega
     have Wi : IntKind.i64.wrap ((i : Int) + 1) = (i : Int) + 1 := by rw [IntKind.wrap_i64]; omega
     have k0 : wr.cell? ⟨gw, i, none⟩ = some (.string (txt (ws.getD i []))) := (hcr gw i hg2).trans (HCS.out i (by rw [HWN.out]; exact hlt))
     have hdg := fun W => digits_txt (ws.getD i []) W (by have := HWZ.out i; omega)
     have HDD := Lib.hid (show ∀ n, digitsN (ws.getD i []) = some n → numsN ((ws.drop 1).take (i + 1 - 1)) = some (ns ++ [n]) from fun n hd => numsW_next hi1 (by rw [HWN.out]; exact hlt) HN.out hd)
     have HDN := Lib.hid (show digitsN (ws.getD i []) = none → numsN (ws.drop 1) = none from fun hd => numsW_none hi1 (by rw [HWN.out]; exact hlt) hd)
     obtain ⟨t, ht⟩ : ∃ t, ws.getD i [] = t := ⟨_, rfl⟩
     rw [ht] at k0 hdg HDD HDN
     clear hN hO hB hcr hfr ht
     cases hdt : digitsN t with
     | some n =>
       rw [dig_told hdt] at hdg
       have HDG := Lib.hid hdg
       have HNX := Lib.hid (HDD.out n hdt)
       have n0 : ¬ ((n : Int) < 0) := by omega
       clear hdg hdt HDD HDN
       go_wp2_with fail
       refine (HDG.out _).mono ?_
       rintro e w6 ⟨rfl, hb6⟩
       have hz6 := hb6.size
       have HO6 := Lib.hid (own_keeps HO.out hb6)
       have HB6 := Lib.hid (HB.out.trans (hb6.mono hz5))
       clear hb6
       go_wp2_with (at_builtin; refine wpList_append_own _ rfl _ _ 99 rfl w4.heap.size 3 i0 (.int .i64 0) 1 8 Tryz.underlying99 hi0 hz0 hzs1 hz2i rfl zd _ _ _ rfl (HO6.out.alloc _) ⟨w6.heap.size, 0, none⟩ 1 1 [.int .i64 (n : Int)] rfl rfl (by exact World.news_of_block (cs := #[.int .i64 (n : Int)]) (t := 3) (fr := (0, 0)) (heap_alloc_new w6 _)) (by simp [Value.oneCell']) (by unfold maxLen; omega) zO (by simp; omega) ?_)
       intro v' w7 hown7 hgrow7 _
       rw [natCells_snoc] at hown7
       have hB7 : Below w4.heap.size w4 w7 := (HB6.out.alloc zO _).grown hgrow7 (by simp; omega) (fun k e => by have := hlk _ e; omega)
       obtain ⟨a7, c7, rfl⟩ := own_shape hown7
       have HO7 := Lib.hid hown7
       have HB7 := Lib.hid hB7
       clear hown7 hgrow7 hlk hB7
       go_wp2
       go_roundw
       case rel => exact ⟨i + 1, ns ++ [n], a7, c7, by simp, congrArg (Value.int .i64) zO, by omega, by omega, by simp; omega, HNX.out, by simpa using HO7.out, HB7.out⟩
       case measure => simp [intOf]; omega
     | none =>
       have HNO := Lib.hid (HANS.out _ (HDN.out hdt))
       have HV := Lib.hid (show lineV ⟨(p, q), L⟩ s.data.toList = (⟨(p, q), L⟩, whatT) by rw [HV0.out, HNO.out])
       have hdn := dig_not hdt
       obtain ⟨vv, ok, hvo⟩ : ∃ vv ok, digZ t = (vv, ok) := ⟨_, _, rfl⟩
       rw [hvo] at hdg hdn
       dsimp only at hdg hdn
       have HDG := Lib.hid hdg
       clear hdg hdt HDD HDN hvo
       go_wp2_with fail
       refine (HDG.out _).mono ?_
       rintro e w6 ⟨rfl, hb6⟩
       have hz6 := hb6.size
       obtain ⟨hc6, hf6⟩ := bcell hb6
       have bx6_0 := (hc6 w.heap.size 0 zO).trans bxr_0
       have rs6_0 := (hc6 (w.heap.size + 1) 0 zO).trans rsr_0
       have rf6_0 := (hf6 (w.heap.size + 1) 0 zO).trans rfr_0
       have t6_0 := (hc6 w2.heap.size 0 zO).trans tr_0
       have bx6_1 := (hc6 w.heap.size 1 zO).trans bxr_1
       have rs6_1 := (hc6 (w.heap.size + 1) 1 zO).trans rsr_1
       have rf6_1 := (hf6 (w.heap.size + 1) 1 zO).trans rfr_1
       have t6_1 := (hc6 w2.heap.size 1 zO).trans tr_1
       have bx6_2 := (hc6 w.heap.size 2 zO).trans bxr_2
       have rs6_2 := (hc6 (w.heap.size + 1) 2 zO).trans rsr_2
       have rf6_2 := (hf6 (w.heap.size + 1) 2 zO).trans rfr_2
       have t6_2 := (hc6 w2.heap.size 2 zO).trans tr_2
       have HO6 := Lib.hid (own_keeps HOR.out hb6)
       have HB6 := Lib.hid (HBR.out.trans (hb6.mono zO))
       clear hb6 hc6 hf6
       cases ok with
       | false =>
         clear hdn
         go_wp2_with fail
         refine bodyPost_ret (v := .tuple #[.agg #[.int .i64 p, .int .i64 q, .slice a2 L.length c2], .string whatT]) (by simp [results, Tryz.results21, go_sem]; go_simp; rfl) rfl ?_
         unfold LineS
         rw [HV.out]
         have hI9 := pairs_set3 (b := w.heap.size + 1) (IsPairs.of_owns HO6.out) zO (.int .i64 p) (.int .i64 q) (.slice a2 L.length c2)
         refine ⟨a2, c2, rfl, hI9.mono (by show w.heap.size ≤ _; omega) (by simp [World.setCell]) (Nat.le_refl _), ?_⟩
         exact ((HB6.out.setCell zs _).setCell zs _).setCell zs _
       | true =>
         have hv0 : vv < 0 := by rcases hdn with h | h; cases h; exact h
         clear hdn
         go_wp2_with fail
         refine bodyPost_ret (v := .tuple #[.agg #[.int .i64 p, .int .i64 q, .slice a2 L.length c2], .string whatT]) (by simp [results, Tryz.results21, go_sem]; go_simp; rfl) rfl ?_
         unfold LineS
         rw [HV.out]
         have hI9 := pairs_set3 (b := w.heap.size + 1) (IsPairs.of_owns HO6.out) zO (.int .i64 p) (.int .i64 q) (.slice a2 L.length c2)
         refine ⟨a2, c2, rfl, hI9.mono (by show w.heap.size ≤ _; omega) (by simp [World.setCell]) (Nat.le_refl _), ?_⟩
         exact ((HB6.out.setCell zs _).setCell zs _).setCell zs _
   · clear hlk
     obtain rfl : i = Wn := by omega
     have hNN : numsN (ws.drop 1) = some ns := by
       have := HN.out
       rwa [List.take_of_length_le (by rw [List.length_drop, HWN.out]; exact Nat.le_refl _)] at this
     have cg0 : wr.cell? ⟨gw, 0, none⟩ = some (.string (txt (ws.getD 0 []))) := (hcr gw 0 hg2).trans (HCS.out 0 (by rw [HWN.out]; omega))
     have HI := Lib.hid (IsInts.of_owns (f := fun j => ((ns.getD j 0 : Nat) : Int)) (show wr.ownsRow w4.heap.size 3 1 (.slice a9 ns.length c9) ns.length ((List.range ns.length).map fun j => .int .i64 ((ns.getD j 0 : Nat) : Int)) by rw [← natCells_range]; exact HO.out))
     have hask := fun (W : World) (hg : wr.grownBy W (some (w.heap.size + 1))) => HASKS.out ns W w4.heap.size wr.heap.size _ hNN (ints_grown HI.out hg zO)
     obtain ⟨w0, hw0⟩ : ∃ t, txt (ws.getD 0 []) = t := ⟨_, rfl⟩
     obtain ⟨ans, hans⟩ : ∃ t, ansV p q s.data.toList = t := ⟨_, rfl⟩
     have HV := Lib.hid (show lineV ⟨(p, q), L⟩ s.data.toList = (⟨(p, q), L⟩, ans) by rw [HV0.out, hans])
     rw [hw0, hans] at hask
     rw [hw0] at cg0
     have hWp : 0 < i := by omega
     have hgl9 : gw < wr.heap.size := by omega
     have hgR : gw ≠ w.heap.size + 1 := by omega
     have hbl : w.heap.size < wr.heap.size := by omega
     have htl : w2.heap.size < wr.heap.size := by omega
     have hRW : w.heap.size + 1 < wr.heap.size := by omega
     have hbR : w.heap.size ≠ w.heap.size + 1 := by omega
     have htR : w2.heap.size ≠ w.heap.size + 1 := by omega
     have cb0 := bxr_0
     have cb1 := bxr_1
     have ct0 := tr_0
     have ct1 := tr_1
     have ct2 := tr_2
     clear hN hO hB hcr hfr HASKS HANS hw0 hans
     go_wp2_with fail
     rename_i K hK
     refine wp_region_stores (PP := fun j u _ => wordsP w.heap.size p q a2 L c2 ans gw i cw w0 a9 ns c9 j u) (Grow := fun u u' => u.grownBy u' (some (w.heap.size + 1))) (G := lineF wr (w.heap.size + 1) 8 p q (.slice a2 L.length c2)) (by kernel_rfl) (dis_of2 (by kernel_rfl)) (b_of (by kernel_rfl)) (back_of (by kernel_rfl)) (fun _ _ _ _ _ hp => hp) ⟨gr_drew (gr_refl _ _), _, _, _, ⟨rsr_0, rsr_1, rsr_2⟩, ⟨rfr_0, rfr_1, rfr_2⟩, fun h => by simp [Array.getD_eq_getD_getElem?] at h⟩ ?step ?fin
     case step =>
       intro io o hi listed act w9 hS hG hall hl
       have hin : io < 10 := (Array.getElem?_eq_some_iff.1 hi).1
       rcases (show io = 0 ∨ io = 1 ∨ io = 2 ∨ io = 3 ∨ io = 4 ∨ io = 5 ∨ io = 6 ∨ io = 7 ∨ io = 8 ∨ io = 9 by omega) with rfl | rfl | rfl | rfl | rfl | rfl | rfl | rfl | rfl | rfl
       · obtain rfl := Option.some.inj hi
         have e6 : act.eval (.tmp 6) = .pointer (some ⟨w2.heap.size, 0, none⟩) := hS.2.2.1 6 (noDst_of (by kernel_rfl))
         have t0 : w9.cell? ⟨w2.heap.size, 0, none⟩ = _ := ((gcell hG.1).1 _ _ htl htR).trans ct0
         have t1 : w9.cell? ⟨w2.heap.size, 1, none⟩ = _ := ((gcell hG.1).1 _ _ htl htR).trans ct1
         have t2 : w9.cell? ⟨w2.heap.size, 2, none⟩ = _ := ((gcell hG.1).1 _ _ htl htR).trans ct2
         refine op_value (v := .agg #[.int .i64 p, .int .i64 q, .slice a2 L.length c2]) (w' := w9) rfl rfl (by intro ev ht hc hf; rw [← ht] at e6; simp [execOp, hc, hf, e6, t0, t1, t2, go_sem]) ⟨.inl ⟨_, 89, rfl, rfl, rfl⟩, gr_refl _ _, lineF_same hG zd⟩
       · obtain rfl := Option.some.inj hi
         have e2 : act.eval (.tmp 2) = .pointer (some ⟨w.heap.size, 0, none⟩) := hS.2.2.1 2 (noDst_of (by kernel_rfl))
         refine op_value (v := .pointer (some ⟨w.heap.size, 0, none⟩)) (w' := w9) rfl rfl (by intro ev ht hc hf; rw [← ht] at e2; simp [execOp, hc, hf, e2, go_sem]) ⟨.inl ⟨_, 90, rfl, rfl, rfl⟩, gr_refl _ _, lineF_same hG zd⟩
       · obtain rfl := Option.some.inj hi
         have P1 := hS.2.2.2 1 _ 90 rfl rfl (hall { on := 1, ground := .data } (by simp) rfl)
         replace P1 : act.eval (.tmp 90) = .pointer (some ⟨w.heap.size, 0, none⟩) := P1
         have b0 : w9.cell? ⟨w.heap.size, 0, none⟩ = _ := ((gcell hG.1).1 _ _ hbl hbR).trans cb0
         have b1 : w9.cell? ⟨w.heap.size, 1, none⟩ = _ := ((gcell hG.1).1 _ _ hbl hbR).trans cb1
         refine op_value (v := .agg #[.int .i64 p, .int .i64 q]) (w' := w9) rfl rfl (by intro ev ht hc hf; rw [← ht] at P1; simp [execOp, hc, hf, P1, b0, b1, go_sem]) ⟨.inl ⟨_, 91, rfl, rfl, rfl⟩, gr_refl _ _, lineF_same hG zd⟩
       · obtain rfl := Option.some.inj hi
         have e11 : act.eval (.tmp 11) = .slice (some ⟨gw, 0, none⟩) i cw := hS.2.2.1 11 (noDst_of (by kernel_rfl))
         refine op_value (v := .slice (some ⟨gw, 0, none⟩) i cw) (w' := w9) rfl rfl (by intro ev ht hc hf; rw [← ht] at e11; simp [execOp, hc, hf, e11, go_sem]) ⟨.inl ⟨_, 92, rfl, rfl, rfl⟩, gr_refl _ _, lineF_same hG zd⟩
       · obtain rfl := Option.some.inj hi
         have P3 := hS.2.2.2 3 _ 92 rfl rfl (hall { on := 3, ground := .data } (by simp) rfl)
         replace P3 : act.eval (.tmp 92) = .slice (some ⟨gw, 0, none⟩) i cw := P3
         refine op_value (v := .pointer (some ⟨gw, 0, none⟩)) (w' := w9) rfl rfl (by intro ev ht hc hf; rw [← ht] at P3; simp [execOp, hc, hf, P3, go_sem, hWp]) ⟨.inl ⟨_, 93, rfl, rfl, rfl⟩, gr_refl _ _, lineF_same hG zd⟩
       · obtain rfl := Option.some.inj hi
         have P4 := hS.2.2.2 4 _ 93 rfl rfl (hall { on := 4, ground := .data } (by simp) rfl)
         replace P4 : act.eval (.tmp 93) = .pointer (some ⟨gw, 0, none⟩) := P4
         have g0 : w9.cell? ⟨gw, 0, none⟩ = _ := ((gcell hG.1).1 _ _ hgl9 hgR).trans cg0
         refine op_value (v := .string w0) (w' := w9) rfl rfl (by intro ev ht hc hf; rw [← ht] at P4; simp [execOp, hc, hf, P4, g0, go_sem]) ⟨.inl ⟨_, 94, rfl, rfl, rfl⟩, gr_refl _ _, lineF_same hG zd⟩
       · obtain rfl := Option.some.inj hi
         have e12 : act.eval (.tmp 12) = .slice a9 ns.length c9 := hS.2.2.1 12 (noDst_of (by kernel_rfl))
         refine op_value (v := .slice a9 ns.length c9) (w' := w9) rfl rfl (by intro ev ht hc hf; rw [← ht] at e12; simp [execOp, hc, hf, e12, go_sem]) ⟨.inl ⟨_, 95, rfl, rfl, rfl⟩, gr_refl _ _, lineF_same hG zd⟩
       · obtain rfl := Option.some.inj hi
         have P2 := hS.2.2.2 2 _ 91 rfl rfl (hall { on := 2, ground := .data } (by simp) rfl)
         replace P2 : act.eval (.tmp 91) = .agg #[.int .i64 p, .int .i64 q] := P2
         have P5 := hS.2.2.2 5 _ 94 rfl rfl (hall { on := 5, ground := .data } (by simp) rfl)
         replace P5 : act.eval (.tmp 94) = .string w0 := P5
         have P6 := hS.2.2.2 6 _ 95 rfl rfl (hall { on := 6, ground := .data } (by simp) rfl)
         replace P6 : act.eval (.tmp 95) = .slice a9 ns.length c9 := P6
         refine op_enter rfl rfl (f := 69) (args := #[pr p q, .string w0, .slice a9 ns.length c9]) (w' := w9) (by intro ev ht hc hf; rw [← ht] at P2 P5 P6; simp [execOp, hc, hf, P2, P5, P6, go_sem, hen1, pr]) ?_
         refine (hask w9 hG.1).mono ?_
         rintro e w10 ⟨rfl, hb10⟩
         exact ⟨_, rfl, .inl ⟨_, 96, rfl, rfl, rfl⟩, gr_below (gr_refl _ _) hb10, lineF_call hG hRW zd hb10⟩
       · obtain rfl := Option.some.inj hi
         have e4 : act.eval (.tmp 4) = .pointer (some ⟨w.heap.size + 1, 0, none⟩) := hS.2.2.1 4 (noDst_of (by kernel_rfl))
         have P0 := hS.2.2.2 0 _ 89 rfl rfl (hall { on := 0, ground := .data } (by simp) rfl)
         replace P0 : act.eval (.tmp 89) = .agg #[.int .i64 p, .int .i64 q, .slice a2 L.length c2] := P0
         obtain ⟨_, x9, y9, z9, ⟨c0, c1, c2'⟩, ⟨f0, f1, f2⟩, _⟩ := id hG
         have hG' := lineF_put hG
         have hgr : w9.grownBy (((w9.setCell ⟨w.heap.size + 1, 0, none⟩ (.int .i64 p)).setCell ⟨w.heap.size + 1, 1, none⟩ (.int .i64 q)).setCell ⟨w.heap.size + 1, 2, none⟩ (.slice a2 L.length c2)) (some (w.heap.size + 1)) := ⟨rfl, rfl, rfl, by simp [World.setCell], fun j hj hne => by
           have hne' : j ≠ w.heap.size + 1 := fun e => hne (by rw [e])
           rw [Below.heap_setCell _ _ _ _ hne', Below.heap_setCell _ _ _ _ hne', Below.heap_setCell _ _ _ _ hne']⟩
         refine op_store (w' := ((w9.setCell ⟨w.heap.size + 1, 0, none⟩ (.int .i64 p)).setCell ⟨w.heap.size + 1, 1, none⟩ (.int .i64 q)).setCell ⟨w.heap.size + 1, 2, none⟩ (.slice a2 L.length c2)) rfl rfl rfl (by intro ev ht hc hf; rw [← ht] at e4 P0; simp [execOp, hc, hf, e4, P0, go_sem, c0, c1, c2', f0, f1, f2]; try go_simp) ⟨.inr ⟨rfl, rfl⟩, hgr, hG'⟩
       · obtain rfl := Option.some.inj hi
         have P7 := hS.2.2.2 7 _ 96 rfl rfl (hall { on := 7, ground := .data } (by simp) rfl)
         replace P7 : act.eval (.tmp 96) = .string ans := P7
         refine op_value (v := .string ans) (w' := w9) rfl rfl (by intro ev ht hc hf; rw [← ht] at P7; simp [execOp, hc, hf, P7, go_sem]) ⟨.inl ⟨_, 5, rfl, rfl, rfl⟩, gr_refl _ _, lineF_same hG zd⟩
     case fin =>
       intro listed act w8 hall hS hG
       have e4 : act.tmps.getD 4 undef = .pointer (some ⟨w.heap.size + 1, 0, none⟩) := hS.2.2.1 4 (noDst_of (by kernel_rfl))
       have e5 := hS.2.2.2 9 _ 5 rfl rfl (hall 9 zd)
       replace e5 : act.tmps.getD 5 undef = .string ans := e5
       obtain ⟨hg, x, y, z, ⟨c0, c1, c2'⟩, _, h8⟩ := hG
       obtain ⟨rfl, rfl, rfl⟩ := h8 (hall 8 zd)
       have hB8 : Below w.heap.size w w8 := HBR.out.grown hg HBR.out.size (fun k e => by cases e; omega)
       have HO8 := Lib.hid (own_grows HOR.out hg zO)
       have hd : act.defers = [] := hS.1
       have e4' : act.tmps[4]?.getD undef = .pointer (some ⟨w.heap.size + 1, 0, none⟩) := by rw [← Array.getD_eq_getD_getElem?]; exact e4
       have e5' : act.tmps[5]?.getD undef = .string ans := by rw [← Array.getD_eq_getD_getElem?]; exact e5
       refine hK _ _ ?_
       clear hK K hS hall hg h8
       go_wp2_with fail
       refine bodyPost_ret (v := .tuple #[.agg #[.int .i64 p, .int .i64 q, .slice a2 L.length c2], .string ans]) (by simp [results, Tryz.results21, go_sem, e4', e5', c0, c1, c2']) hd ?_
       unfold LineS
       rw [HV.out]
       exact ⟨a2, c2, rfl, (IsPairs.of_owns HO8.out).mono (by show w.heap.size ≤ _; omega) (Nat.le_refl _) (Nat.le_refl _), hB8⟩
end
section
open Go.RowKit Go.Shelf
theorem words_one {l : List UInt8} (h : (wordsN [] l).length = 1) : wordsN [] l = [l] := by
 by_cases hm : (32 : UInt8) ∈ l
 · exfalso
   have hge := Lib.indexByte_ge l 32
   by_cases hn : Lib.indexByte l 32 = -1
   · exact index_misses hn hm
   · obtain ⟨t, r, e, _, hnt⟩ := index_split (l := l) (o := (Lib.indexByte l 32).toNat) zO
     rw [e, words_cut hnt, List.length_cons] at h
     have := words_pos r
     omega
 · exact words_none hm
set_option maxHeartbeats 1000000 in
theorem asks_all (p q : Int) (s : ByteArray) (hw1 : ¬ s.toList = [112, 97, 105, 114]) (hw2 : ¬ s.toList = [119, 101, 105, 103, 104, 116]) (ns : List Nat) (W : World) (B C : Nat) (u : Value) (hn : numsN ((wordsN [] s.data.toList).drop 1) = some ns) (HI : IsInts B C W u ns.length (fun i => ((ns.getD i 0 : Nat) : Int))) :
   Calls Tryz.prog 69 #[pr p q, .string (txt ((wordsN [] s.data.toList).getD 0 [])), u] W fun e w' => e = .returned (.string (ansV p q s.data.toList)) ∧ Below W.heap.size W w' := by
 have hv : ansV p q s.data.toList = askV p q (txt ((wordsN [] s.data.toList).getD 0 [])) ns := by unfold ansV; rw [hn]
 have hlen := numsN_len _ _ hn
 rw [List.length_drop] at hlen
 rw [hv]
 obtain ⟨a, cap, rfl, _⟩ := id HI
 match ns, hlen, HI with
 | [], hlen, HI =>
   have hp := words_pos s.data.toList
   have h1 := words_one (l := s.data.toList) (by simp at hlen; omega)
   rw [h1]
   have e : askV p q (txt ([s.data.toList].getD 0 [])) [] = whatT := by
     show ask0 p q (txt s.data.toList) = whatT
     rw [txt_of]
     unfold ask0
     rw [if_neg hw1, if_neg hw2]
   rw [e]
   exact ask_no_many p q _ a 0 cap W zd
 | [n], _, HI =>
   obtain ⟨w0, hw0⟩ : ∃ w0, (wordsN [] s.data.toList).getD 0 [] = w0 := ⟨_, rfl⟩
   rw [hw0]
   show Calls _ _ _ _ fun e w' => e = .returned (.string (ask1 p q (n : Int) (txt w0))) ∧ _
   replace HI : IsInts B C W (.slice a 1 cap) 1 (fun _ => (n : Int)) := HI.congr fun i hi => by
     have hi1 : i < 1 := hi
     obtain rfl : i = 0 := by omega
     rfl
   · skip
     by_cases h0 : (txt w0).toList = [102, 105, 114, 115, 116]
     · have e : ask1 p q (n : Int) (txt w0) = toldT (firstV p q (n : Int)) (atB p q (n : Int)) := by unfold ask1; rw [if_pos h0]
       rw [e]
       exact ask_first p q (n : Int) _ h0 _ _ _ W HI
     by_cases h1 : (txt w0).toList = [115, 101, 99, 111, 110, 100]
     · have e : ask1 p q (n : Int) (txt w0) = toldT (secondV p q (n : Int)) (atB p q (n : Int)) := by unfold ask1; rw [if_neg h0, if_pos h1]
       rw [e]
       exact ask_second p q (n : Int) _ h1 _ _ _ W HI
     by_cases h2 : (txt w0).toList = [114, 97, 110, 107]
     · have e : ask1 p q (n : Int) (txt w0) = toldT (rankV p q (n : Int)) (rankB p q (n : Int)) := by unfold ask1; rw [if_neg h0, if_neg h1, if_pos h2]
       rw [e]
       exact ask_rank p q (n : Int) _ h2 _ _ _ W HI
     by_cases h3 : (txt w0).toList = [112, 101, 114, 105, 111, 100]
     · have e : ask1 p q (n : Int) (txt w0) = toldT (periodV p q (n : Int)) (rankB p q (n : Int)) := by unfold ask1; rw [if_neg h0, if_neg h1, if_neg h2, if_pos h3]
       rw [e]
       exact ask_period p q (n : Int) _ h3 _ _ _ W HI
     by_cases h4 : (txt w0).toList = [112, 97, 115, 115, 101, 115]
     · have e : ask1 p q (n : Int) (txt w0) = yesT (passFirstB p q (n : Int) && passSecondB p q (n : Int)) := by unfold ask1; rw [if_neg h0, if_neg h1, if_neg h2, if_neg h3, if_pos h4]
       rw [e]
       exact ask_passes p q (n : Int) _ h4 _ _ _ W HI
     by_cases h5 : (txt w0).toList = [119, 114, 105, 116, 116, 101, 110]
     · have e : ask1 p q (n : Int) (txt w0) = writT (n : Int) := by unfold ask1; rw [if_neg h0, if_neg h1, if_neg h2, if_neg h3, if_neg h4, if_pos h5]
       rw [e]
       exact ask_written p q (n : Int) _ h5 _ _ _ W HI
     have e : ask1 p q (n : Int) (txt w0) = whatT := by unfold ask1; rw [if_neg h0, if_neg h1, if_neg h2, if_neg h3, if_neg h4, if_neg h5]
     rw [e]
     exact ask_no_one p q _ a 1 cap W rfl h0 h1 h2 h3 h4 h5
 | [n, m], _, HI =>
   obtain ⟨w0, hw0⟩ : ∃ w0, (wordsN [] s.data.toList).getD 0 [] = w0 := ⟨_, rfl⟩
   rw [hw0]
   show Calls _ _ _ _ fun e w' => e = .returned (.string (ask2 p q (n : Int) (m : Int) (txt w0))) ∧ _
   replace HI : IsInts B C W (.slice a 2 cap) 2 (fun i => if i = 0 then (n : Int) else (m : Int)) := HI.congr fun i hi => by
     have hi2 : i < 2 := hi
     rcases (show i = 0 ∨ i = 1 by omega) with rfl | rfl <;> rfl
   · skip
     by_cases h0 : (txt w0).toList = [102, 97, 114]
     · have e : ask2 p q (n : Int) (m : Int) (txt w0) = toldT (farFirstV p q (n : Int) (m : Int)) (decide (0 ≤ farFirstV p q (n : Int) (m : Int))) := by unfold ask2; rw [if_pos h0]
       rw [e]
       exact ask_far p q (n : Int) (m : Int) _ h0 _ _ _ W HI
     by_cases h1 : (txt w0).toList = [99, 105, 114, 99, 108, 101]
     · have e : ask2 p q (n : Int) (m : Int) (txt w0) = toldT (circV (n : Int) (m : Int)) (circB (n : Int) (m : Int)) := by unfold ask2; rw [if_neg h0, if_pos h1]
       rw [e]
       exact ask_circle p q (n : Int) (m : Int) _ h1 _ _ _ W HI
     have e : ask2 p q (n : Int) (m : Int) (txt w0) = whatT := by unfold ask2; rw [if_neg h0, if_neg h1]
     rw [e]
     exact ask_no_two p q _ a 2 cap W rfl h0 h1
 | n :: m :: k :: l, _, HI =>
   show Calls _ _ _ _ fun e w' => e = .returned (.string whatT) ∧ _
   exact ask_no_many p q _ a (n :: m :: k :: l).length cap W (by simp only [List.length_cons]; omega)
theorem specLine_any (B C : Nat) (p q : Int) (L : List (Int × Int)) (v : Value) (s : ByteArray) (w : World) (h : IsPairs B C w v L) (hn : L.length ≤ 1048600) (hs : s.size ≤ 1048600) :
   Calls Tryz.prog 21 #[.agg #[.int .i64 p, .int .i64 q, v], .string s] w (LineS ⟨(p, q), L⟩ s.data.toList w) := by
 cases hd : deskN ⟨(p, q), L⟩ with
 | false => exact specLine_no B C p q L v s w h hn hd
 | true =>
   cases hr : readN s.data.toList with
   | some x => exact specLine_deed B C p q L v s w h hn hs hd x.kind x.a x.b hr
   | none =>
     by_cases hw1 : s.toList = [112, 97, 105, 114]
     · exact specLine_pair B C p q L v s w h hn hs hd hr hw1 _ rfl
     · by_cases hw2 : s.toList = [119, 101, 105, 103, 104, 116]
       · exact specLine_weight B C p q L v s w h hn hs hd hr hw2 _ rfl
       · exact specLine_words B C p q L v s w h hn hs hd hr hw1 hw2 (asks_all p q s hw1 hw2)
end
end Go.Proofs.YtblphilcmfabkaaGreatDoor
