/- Contracts and laws that the statement's proof stands on, one text behind the other. -/
import Derived.Test.YtblphilcmfabkaaGreatDoorAla4
import Derived.Maps.AppendAt
import Derived.Laws.MakeOwn

namespace Go.Proofs.YtblphilcmfabkaaGreatDoor
section
open Go.RowKit Go.Shelf
def sayV : DeskN → List ByteArray → DeskN × List ByteArray
 | d, [] => (d, [])
 | d, s :: ss => ((sayV (lineV d s.data.toList).1 ss).1, (lineV d s.data.toList).2 :: (sayV (lineV d s.data.toList).1 ss).2)
theorem sayV_append (d : DeskN) (X Y : List ByteArray) : sayV d (X ++ Y) = ((sayV (sayV d X).1 Y).1, (sayV d X).2 ++ (sayV (sayV d X).1 Y).2) := by
 induction X generalizing d with
 | nil => simp [sayV]
 | cons x X ih => simp only [List.cons_append, sayV, ih]
theorem sayV_take {d : DeskN} {X : List ByteArray} {i : Nat} {s : ByteArray} (h : X[i]? = some s) : sayV d (X.take (i + 1)) = ((lineV (sayV d (X.take i)).1 s.data.toList).1, (sayV d (X.take i)).2 ++ [(lineV (sayV d (X.take i)).1 s.data.toList).2]) := by
 obtain ⟨hi, rfl⟩ := List.getElem?_eq_some_iff.1 h
 rw [List.take_succ_eq_append_getElem hi, sayV_append]
 simp only [sayV]
theorem sayV_len (d : DeskN) (X : List ByteArray) : (sayV d X).2.length = X.length := by
 induction X generalizing d with
 | nil => rfl
 | cons x X ih => simp only [sayV, List.length_cons, ih]
theorem lineV_desk {d : DeskN} (l : List UInt8) (h : deskN d = true) : deskN (lineV d l).1 = true := by
 cases hr : readN l with
 | none => rw [lineV_ask h hr]; exact h
 | some x => rw [lineV_deed h hr rfl]; exact doN_desk x h
theorem sayV_desk {d : DeskN} (X : List ByteArray) (h : deskN d = true) : deskN (sayV d X).1 = true := by
 induction X generalizing d with
 | nil => exact h
 | cons x X ih => exact ih (lineV_desk _ h)
def sayR (d : DeskN) (X : List ByteArray) : DeskN × List ByteArray := if deskN d = true ∧ X.length ≤ 40 then sayV d X else (⟨(0, 0), []⟩, [])
theorem sayR_no {d : DeskN} {X : List ByteArray} (h : ¬ (deskN d = true ∧ X.length ≤ 40)) : sayR d X = (⟨(0, 0), []⟩, []) := if_neg h
theorem sayR_yes {d : DeskN} {X : List ByteArray} (h : deskN d = true) (h' : X.length ≤ 40) : sayR d X = sayV d X := if_pos ⟨h, h'⟩
theorem sayR_len (d : DeskN) (X : List ByteArray) : (sayR d X).2.length ≤ 40 ∧ (sayR d X).1.past.length ≤ 8 := by
 by_cases h : deskN d = true ∧ X.length ≤ 40
 · rw [sayR_yes h.1 h.2]; exact ⟨by rw [sayV_len]; exact h.2, (deskN_of (sayV_desk X h.1)).2.1⟩
 · rw [sayR_no h]; exact ⟨by simp, by simp⟩
def txtAt (X : List ByteArray) (k : Nat) : ByteArray := X.getD k ⟨#[]⟩
def byteC (X : List ByteArray) : List Value := X.map .string
theorem byteC_snoc (X : List ByteArray) (x : ByteArray) : byteC X ++ [.string x] = byteC (X ++ [x]) := by simp [byteC]
theorem byteC_range (X : List ByteArray) : byteC X = (List.range X.length).map fun i => .string (txtAt X i) := by
 apply List.ext_getElem?
 intro i
 by_cases hi : i < X.length
 · simp [byteC, txtAt, hi, List.getD_eq_getElem?_getD]
 · simp [byteC, hi]
theorem strs_own {B n : Nat} {w : World} {e : TypeId} {v : Value} {X : List ByteArray} (h : w.ownsRow B e 1 v n (byteC X)) (hn : n = X.length) : IsStrs B w.heap.size w v X.length (txtAt X) := by
 subst hn
 rw [byteC_range] at h
 exact IsStrs.of_owns h
theorem pairs_beside {B C : Nat} {w w' : World} {v : Value} {L : List (Int × Int)} {row : Option Nat} (h : IsPairs B C w v L) (hg : w.grownBy w' row) (hr : ∀ g, row = some g → g < B ∨ C ≤ g) : IsPairs B C w' v L := by
 obtain ⟨a, cap, rfl, hC, hs⟩ := h
 refine ⟨a, cap, rfl, Nat.le_trans hC hg.size, ?_⟩
 rcases hs with hs | ⟨g, off, ha, h1, h2, hc, hf⟩
 · exact .inl hs
 · have hne : some g ≠ row := fun e => by have := hr g e.symm; omega
   exact .inr ⟨g, off, ha, h1, h2, fun i p hi => ⟨(hg.cell_far ⟨g, off + i * 2, none⟩ (by show g < w.heap.size; omega) hne).trans (hc i p hi).1, (hg.cell_far ⟨g, off + i * 2 + 1, none⟩ (by show g < w.heap.size; omega) hne).trans (hc i p hi).2⟩, fun i hi => (hg.frozen_far ⟨g, off + i, none⟩ (by show g < w.heap.size; omega) hne).trans (hf i hi)⟩
def SayS (d : DeskN) (X : List ByteArray) (w : World) (e : Ending) (w' : World) : Prop :=
 ∃ a c b k B1 C1 B2 C2, e = .returned (.tuple #[.agg #[.int .i64 (sayR d X).1.now.1, .int .i64 (sayR d X).1.now.2, .slice a (sayR d X).1.past.length c], .slice b (sayR d X).2.length k]) ∧ IsPairs B1 C1 w' (.slice a (sayR d X).1.past.length c) (sayR d X).1.past ∧ IsStrs B2 C2 w' (.slice b (sayR d X).2.length k) (sayR d X).2.length (txtAt (sayR d X).2) ∧ (w.heap.size ≤ B1 ∧ w.heap.size ≤ B2 ∧ (C1 ≤ B2 ∨ C2 ≤ B1)) ∧ Below w.heap.size w w'
end
section
open Go.RowKit Go.Shelf
theorem gr3 (w : World) (b : Nat) (x y z : Value) : w.grownBy (((w.setCell ⟨b, 0, none⟩ x).setCell ⟨b, 1, none⟩ y).setCell ⟨b, 2, none⟩ z) (some b) := by
 refine ⟨rfl, rfl, rfl, by simp [World.setCell], fun j _ hne => ?_⟩
 have hj : j ≠ b := fun e => hne (by rw [e])
 rw [Below.heap_setCell _ _ _ _ (by show j ≠ b; exact hj), Below.heap_setCell _ _ _ _ (by show j ≠ b; exact hj), Below.heap_setCell _ _ _ _ (by show j ≠ b; exact hj)]
theorem own_other {v : Value} {b : Nat} (h : ∀ g, v.ownBlock = some g → g ≠ b) : v.ownBlock = none ∨ v.ownBlock ≠ some b := by
 cases hv : v.ownBlock with
 | none => exact .inl rfl
 | some g => exact .inr (fun e => by injection e with e; exact h g hv e)
theorem own_not {w : World} {base size n b : Nat} {e : TypeId} {v : Value} {xs : List Value} (h : w.ownsRow base e size v n xs) (hb : b < base) : v.ownBlock = none ∨ v.ownBlock ≠ some b :=
 own_other fun g hg e => by have := (h.lt g hg).1; omega
theorem strs_of {w : World} {base : Nat} {e : TypeId} {b : Option Addr} {c : Nat} {A : List ByteArray} (h : w.ownsRow base e 1 (.slice b A.length c) A.length (byteC A)) (hz : ∀ g, (Value.slice b A.length c).ownBlock = some g → g < w.heap.size) :
   ∃ B2 C2, IsStrs B2 C2 w (.slice b A.length c) A.length (txtAt A) ∧ base ≤ B2 ∧ ∀ B1 C1, B1 ≤ C1 → (∀ g, (Value.slice b A.length c).ownBlock = some g → g < B1 ∨ C1 ≤ g) → C1 ≤ B2 ∨ C2 ≤ B1 := by
 have hI := strs_own h rfl
 obtain ⟨b', c', e', hC, hs⟩ := id hI
 obtain ⟨rfl, rfl⟩ : b = b' ∧ c = c' := by simpa using e'
 rcases hs with hs | ⟨g, off, rfl, h1, h2, hc, hf⟩
 · refine ⟨base + w.heap.size, 0, ⟨_, _, rfl, Nat.zero_le _, .inl hs⟩, by omega, fun B1 C1 _ _ => .inr (Nat.zero_le _)⟩
 · refine ⟨g, g + 1, ⟨_, _, rfl, by omega, .inr ⟨g, off, rfl, Nat.le_refl _, by omega, hc, hf⟩⟩, h1, fun B1 C1 _ hg => ?_⟩
   have := hg g rfl
   omega
end
section
open Go.RowKit
set_option maxHeartbeats 4000000 in
theorem heldStringS_any (B C n : Nat) (v : Value) (k0 : Nat) (w : World) (h : IsStrs B C w v n (fun i => markT (k0 + i))) (hn : n ≤ 3000000) (hk : 1 ≤ k0) (hk1 : k0 ≤ 3000000) :
   Calls Tryz.prog 37 #[v, .int .i64 k0] w fun e w' => e = .returned (.int .i64 ((k0 + n : Nat) : Int)) ∧ Below w.heap.size w w' := by
 obtain ⟨a, ca, rfl, hC, hs⟩ := h
 go_enter Tryz.func37, Tryz.ntmps37
 go_wp2_with fail
 go_loopw [1, 5] (fun x y wr => ∃ i : Nat, i ≤ n ∧ x = .int .i64 ((k0 + i : Nat) : Int) ∧ y = .int .i64 i ∧ Below w.heap.size w wr) (fun _ y _ => n - (intOf y).toNat)
 case atStart => exact ⟨0, Nat.zero_le _, by simp, rfl, Below.refl _ _⟩
 case round =>
   obtain ⟨i, hi, rfl, rfl, hB⟩ := hrel
   by_cases hlt : i < n
   · rcases hs with rfl | ⟨g, off, rfl, h1, h2, hc, hf⟩
     · omega
     have c1 : wr.cell? ⟨g, off + i, none⟩ = some (.string (markT (k0 + i))) := (hB.cell (p := ⟨g, off + i, none⟩) (by show g < _; omega)).trans (hc i hlt)
     have hii : (i : Int) < (n : Int) := by omega
     have i0 : (0 : Int) ≤ (i : Int) := by omega
     obtain ⟨K, hK⟩ : ∃ K, k0 + i = K := ⟨_, rfl⟩
     have HK := Lib.hid hK
     have hK1 : 1 ≤ K := by omega
     have hK2 : K < 10000000000 := by omega
     rw [hK] at c1 ⊢
     have HB := Lib.hid hB
     have hbz := hB.size
     clear hK hc hf hB
     obtain ⟨S, hSd⟩ : ∃ S : World → Prop, (fun V => Below wr.heap.size wr V) = S := ⟨_, rfl⟩
     have hkeep : ∀ V V' : World, S V → Below V.heap.size V V' → S V' := by rw [← hSd]; exact fun V V' h hb => h.trans (hb.mono h.size)
     have gk0 : ∀ iq : KeptBy S, iq.world.cell? ⟨g, off + i, none⟩ = some (.string (markT K)) := by rw [← hSd]; exact fun iq => cell_below iq.ok c1
     have gkn : Nonempty (KeptBy S) := ⟨⟨wr.drew, by rw [← hSd]; exact (Below.refl _ _).drew⟩⟩
     go_wp2_with fail
     refine wp_region_kept (S := S) (by rw [← hSd]; exact (Below.refl _ _).drew) (by kernel_rfl) (by kernel_rfl) ?_
     repeat (go_big_quiet_step ((first | (go_at_call 77; refine (markText_any K _ hK1 hK2).mono ?_; rintro e w' ⟨rfl, hhw⟩; exact ⟨rfl, ⟨w', hkeep _ _ (KeptBy.ok _) hhw⟩, rfl⟩) | fail)))
     refine wpQuiet_nil ?_
     rintro z3 ⟨iz, hwz⟩
     have bz3 : Below wr.heap.size wr z3 := by
       have this : S z3 := by rw [hwz]; exact iz.ok
       rw [← hSd] at this
       exact this
     clear hwz iz gkn hkeep hSd gk0
     have HBz := Lib.hid (HB.out.trans (bz3.mono hbz))
     clear bz3
     go_wp2
     go_roundw
     case rel => exact ⟨i + 1, by omega, congrArg (Value.int .i64) (by have := HK.out; omega), congrArg (Value.int .i64) zO, HBz.out⟩
     case measure => simp [intOf]; omega
   · obtain rfl : i = n := by omega
     clear hs
     go_wp2
     go_ret
     exact ⟨rfl, hB⟩
end
section
open Go.ChangeShapes Go.WideShapes Go.ChangeAt Go.RowKit Go.Joins Go.Deep
def SeesStrs (w : World) (v : Value) (X : List ByteArray) : Prop :=
 ∃ (a : Option Addr) (cap : Nat), v = .slice a X.length cap ∧ (∀ i, i < X.length → (txtAt X i).size ≤ maxLen) ∧
   (X = [] ∨ ∃ g off, a = some ⟨g, off, none⟩ ∧ g < w.heap.size ∧ ∀ i, i < X.length → w.cell? ⟨g, off + i, none⟩ = some (.string (txtAt X i)))
theorem SeesStrs.below {w w' : World} {v : Value} {X : List ByteArray} (h : SeesStrs w v X) (hb : Below w.heap.size w w') : SeesStrs w' v X := by
 obtain ⟨a, cap, rfl, hsz, hs⟩ := h
 refine ⟨a, cap, rfl, hsz, ?_⟩
 rcases hs with hs | ⟨g, off, ha, hg, hc⟩
 · exact .inl hs
 · exact .inr ⟨g, off, ha, Nat.lt_of_lt_of_le hg hb.size, fun i hi => (hb.cell (p := ⟨g, off + i, none⟩) hg).trans (hc i hi)⟩
theorem txtAt_range (f : Nat → ByteArray) {n i : Nat} (h : i < n) : txtAt ((List.range n).map f) i = f i := by simp [txtAt, h, List.getD_eq_getElem?_getD]
set_option maxRecDepth 100000 in
theorem open_lines {H : Type} {enc : TypeId × Value → H} {w : World} {base : Nat} {spare : Nat → Bool} {held : Bool} {r : Reach} {b0 : Nat} {v : Value} {d : DataW H} {p : List MemPlace} (hv : Value.okWide Tryz.prog w r b0 49 v) (h : DataW.Trod enc Tryz.prog w base spare held 49 v d p) :
   ∃ (X : List ByteArray), SeesStrs w v X ∧ X.length ≤ maxLen := by
 obtain ⟨a, len, cap, rfl⟩ := okWide_slice Tryz.underlying49 hv
 obtain ⟨fuel, hf⟩ := h
 rcases Go.Deep.open_strs Tryz.underlying49 Tryz.underlying9 (by kernel_rfl) hf with ⟨e, _⟩ | ⟨a', len', cap', m, Sx, e, _, hl, hm, hmm, _, hi⟩
 · simp [Value.cells] at e
   obtain ⟨rfl, rfl, rfl⟩ := e
   exact ⟨[], ⟨none, 0, rfl, fun i hi => absurd hi (by simp), .inl rfl⟩, by simp⟩
 · simp [Value.cells] at e
   obtain ⟨rfl, rfl, rfl⟩ := e
   have hlm : len ≤ m := by rw [hmm]; split <;> omega
   refine ⟨(List.range len).map Sx, ⟨some a', cap, by simp, fun i hil => ?_, ?_⟩, by simp; omega⟩
   · have hil' : i < len := by simpa using hil
     rw [txtAt_range _ hil']
     exact (hi i zO).2
   · rcases Nat.eq_zero_or_pos len with rfl | hp
     · exact .inl rfl
     · have h0 := (hi 0 zO).1
       rw [show a'.add 0 = a' from rfl] at h0
       have hsp := World.cell?_spot h0
       have hlt := World.block_lt_of_cell? w a' h0
       obtain ⟨g, off, sp⟩ := a'
       simp at hsp
       subst hsp
       refine .inr ⟨g, off, rfl, hlt, fun i hil => ?_⟩
       have hil' : i < len := by simpa using hil
       rw [txtAt_range _ hil']
       have := (hi i zO).1
       simp only [add_row] at this
       exact this
theorem IsStrs.markedS2 {B C B0 C0 : Nat} {w w' : World} {v : Value} {n : Nat} {f : Nat → ByteArray} (h : IsStrs B0 C0 w v n f) (hm : MarkedS B C w w') (hd : C0 ≤ B ∨ C ≤ B0) : IsStrs B0 C0 w' v n f := by
 obtain ⟨a, cap, rfl, hC, hs⟩ := h
 obtain ⟨row, hg, hr⟩ := hm
 refine ⟨a, cap, rfl, Nat.le_trans hC hg.size, ?_⟩
 rcases hs with hs | ⟨g, off, ha, h1, h2, hc, hf⟩
 · exact .inl hs
 · have hne : some g ≠ row := fun e => by have := hr g e.symm; omega
   exact .inr ⟨g, off, ha, h1, h2, fun i hi => (hg.cell_far ⟨g, off + i, none⟩ (by show g < w.heap.size; omega) hne).trans (hc i hi), fun i hi => (hg.frozen_far ⟨g, off + i, none⟩ (by show g < w.heap.size; omega) hne).trans (hf i hi)⟩
theorem markLines_any (B C n : Nat) (v : Value) (f : Nat → ByteArray) (k0 : Nat) (k : Int) (hk0 : k = (k0 : Int)) (w : World) (h : IsStrs B C w v n f) (hn : n ≤ 3000000) (hk : 1 ≤ k0) (hk1 : k0 ≤ 3000000) :
   Calls Tryz.prog 36 #[v, .int .i64 k] w fun e w' => e = .returned (.int .i64 (k + (n : Int))) ∧ IsStrs B C w' v n (fun i => markT (k0 + i)) ∧ MarkedS B C w w' := by
 subst hk0
 have := markStringS_any B C n v f k0 w h hn hk hk1
 rwa [show ((k0 + n : Nat) : Int) = (k0 : Int) + (n : Int) by omega] at this
theorem heldLines_any (B C n : Nat) (v : Value) (k0 : Nat) (k : Int) (hk0 : k = (k0 : Int)) (w : World) (h : IsStrs B C w v n (fun i => markT (k0 + i))) (hn : n ≤ 3000000) (hk : 1 ≤ k0) (hk1 : k0 ≤ 3000000) :
   Calls Tryz.prog 37 #[v, .int .i64 k] w fun e w' => e = .returned (.int .i64 (k + (n : Int))) ∧ Below w.heap.size w w' := by
 subst hk0
 have := heldStringS_any B C n v k0 w h hn hk hk1
 rwa [show ((k0 + n : Nat) : Int) = (k0 : Int) + (n : Int) by omega] at this
set_option maxRecDepth 100000 in
set_option maxHeartbeats 4000000 in
theorem szLines_any (X : List ByteArray) (v : Value) (left : Nat) (hl : left ≤ 1048576) (w : World) (h : SeesStrs w v X) (hx : X.length ≤ maxLen) :
   Calls Tryz.prog 33 #[v, .int .i64 left] w fun e w' => ∃ r : Int, e = .returned (.int .i64 r) ∧ (r < 0 ∨ (0 ≤ r ∧ X.length ≤ left ∧ ∀ i, i < X.length → (txtAt X i).size ≤ 1048576)) ∧ Below w.heap.size w w' := by
 have hm : maxLen = 9223372036854775807 := rfl
 obtain ⟨a, cap, rfl, hsz, hs⟩ := h
 rcases Nat.lt_or_ge left X.length with hb | hsml
 · have h2 : IntKind.i64.wrap ((left : Int) - (X.length : Int)) = (left : Int) - (X.length : Int) := by rw [IntKind.wrap_i64]; omega
   have h3 : (left : Int) - (X.length : Int) < 0 := by omega
   clear hs
   go_enter Tryz.func33, Tryz.ntmps33
   go_wp2
   go_ret
   exact ⟨_, rfl, .inl zO, Below.refl _ _⟩
 · have h2 : IntKind.i64.wrap ((left : Int) - (X.length : Int)) = ((left - X.length : Nat) : Int) := by rw [IntKind.wrap_i64]; omega
   have h3 : ¬ (((left - X.length : Nat) : Int) < 0) := by omega
   go_enter Tryz.func33, Tryz.ntmps33
   go_wp2_with fail
   go_loopw [1, 5] (fun x y wr => ∃ i l : Nat, i ≤ X.length ∧ l ≤ 1048576 ∧ x = .int .i64 l ∧ y = .int .i64 i ∧ (∀ j, j < i → (txtAt X j).size ≤ 1048576) ∧ Below w.heap.size w wr) (fun _ y _ => X.length - (intOf y).toNat)
   case atStart => exact ⟨0, left - X.length, Nat.zero_le _, by omega, rfl, rfl, fun j hj => absurd hj zO, Below.refl _ _⟩
   case round =>
     obtain ⟨i, l, hi, hl2, rfl, rfl, hall, hB⟩ := hrel
     by_cases hlt : i < X.length
     · rcases hs with rfl | ⟨g, off, rfl, hg, hc⟩
       · simp at hlt
       have c1 : wr.cell? ⟨g, off + i, none⟩ = some (.string (txtAt X i)) := (hB.cell (p := ⟨g, off + i, none⟩) hg).trans (hc i hlt)
       have hsi := hsz i hlt
       have hii : (i : Int) < (X.length : Int) := by omega
       have i0 : (0 : Int) ≤ (i : Int) := by omega
       obtain ⟨s, hS⟩ : ∃ s, txtAt X i = s := ⟨_, rfl⟩
       rw [hS] at c1 hsi
       have HS := Lib.hid hS
       have HA := Lib.hid hall
       have HB := Lib.hid hB
       clear hS hall hB hc hsz
       rcases Nat.lt_or_ge l s.size with hneg | hpos
       · have w2 : IntKind.i64.wrap ((l : Int) - (s.size : Int)) = (l : Int) - (s.size : Int) := by rw [IntKind.wrap_i64]; omega
         have w3 : (l : Int) - (s.size : Int) < 0 := by omega
         go_wp2
         go_ret
         exact ⟨_, rfl, .inl zO, HB.out⟩
       · have w2 : IntKind.i64.wrap ((l : Int) - (s.size : Int)) = ((l - s.size : Nat) : Int) := by rw [IntKind.wrap_i64]; omega
         have w3 : ¬ (((l - s.size : Nat) : Int) < 0) := by omega
         go_wp2
         go_roundw
         case rel =>
           refine ⟨i + 1, l - s.size, by omega, by omega, rfl, congrArg (Value.int .i64) zO, fun j hj => ?_, HB.out⟩
           by_cases e : j = i
           · subst e; rw [HS.out]; omega
           · exact HA.out j zO
         case measure => simp [intOf]; omega
     · obtain rfl : i = X.length := by omega
       clear hs hsz
       go_wp2
       go_ret
       exact ⟨_, rfl, .inr ⟨by omega, hsml, hall⟩, hB⟩
theorem madeStr_at (n j : Nat) (h : j < n) : (madeCells #[.string ⟨#[]⟩] n)[j]? = some (.string ⟨#[]⟩) := by
 have h2 : j % 1 = 0 := by omega
 simp [madeCells, h, h2]
theorem run_make_texts {P : Program} (t e : TypeId) (i : TypeInfo) (ht : P.underlying t = some (.slice e)) (hi : P.info? e = some i) (hz : i.zero = some (.string ⟨#[]⟩)) (hs : i.size = 1) (hb : i.bytes = 16) (n : Nat) (hn : n ≤ 1048600) (w : World) :
   (Instr.makeSlice t (.int .i64 (n : Int)) (.int .i64 (n : Int))).run P w = .ok (.slice (some ⟨w.heap.size, 0, none⟩) n n) (w.alloc (.cells (madeCells #[.string ⟨#[]⟩] n) e)) := by
 have hr := run_make (P := P) w t e i _ ht hi hz .i64 .i64 n n zO zO (by rw [hb]; omega) zO
 simp only [Int.toNat_natCast, hs, Nat.mul_one] at hr
 exact hr
set_option maxRecDepth 100000 in
set_option maxHeartbeats 4000000 in
theorem toLines_any (X : List ByteArray) (v : Value) (w : World) (h : SeesStrs w v X) (hn : X.length ≤ 1048600) :
   Calls Tryz.prog 34 #[v] w fun e w' => ∃ u, e = .returned u ∧ IsStrs w.heap.size w'.heap.size w' u X.length (txtAt X) ∧ Below w.heap.size w w' := by
 obtain ⟨a, cap, rfl, _, hs⟩ := h
 obtain ⟨i0, hi0, hz0, hzs1, hz2⟩ := info_parts3 info_txt
 have hmk := fun W => run_make_texts (P := Tryz.prog) 49 9 i0 Tryz.underlying49 hi0 hz0 hzs1 hz2 X.length hn W
 go_enter Tryz.func34, Tryz.ntmps34
 go_wp2_with fail
 go_loopw [4] (fun y wr => ∃ i : Nat, i ≤ X.length ∧ y = .int .i64 i ∧ (∀ j, j < i → wr.cell? ⟨w.heap.size, j, none⟩ = some (.string (txtAt X j))) ∧ (∀ j, i ≤ j → j < X.length → wr.cell? ⟨w.heap.size, j, none⟩ = some (.string ⟨#[]⟩)) ∧ (∀ j, wr.frozen? ⟨w.heap.size, j, none⟩ = false) ∧ w.heap.size < wr.heap.size ∧ Below w.heap.size w wr) (fun y _ => X.length - (intOf y).toNat)
 case atStart => exact ⟨0, Nat.zero_le _, rfl, fun j hj => absurd hj zO, fun j _ hj => (World.cell?_alloc_mark _ _ _ _ _).trans (madeStr_at _ _ hj), fun j => by (unfold World.frozen?; rw [heap_alloc_new]; simp), by simp, (Below.refl _ _).alloc (Nat.le_refl _) _⟩
 case round =>
   obtain ⟨i, hi, rfl, hm, hr, hfr, hsz, hB⟩ := hrel
   by_cases hlt : i < X.length
   · rcases hs with rfl | ⟨g, off, rfl, hg, hc⟩
     · simp at hlt
     have c1 : wr.cell? ⟨g, off + i, none⟩ = some (.string (txtAt X i)) := (hB.cell (p := ⟨g, off + i, none⟩) hg).trans (hc i hlt)
     have d1 := hr i zO zO
     have f1 := hfr i
     have hii : (i : Int) < (X.length : Int) := by omega
     have i0 : (0 : Int) ≤ (i : Int) := by omega
     have HM := Lib.hid hm
     have HR := Lib.hid hr
     have HF := Lib.hid hfr
     have HB := Lib.hid hB
     clear hm hr hfr hc hB hmk
     go_wp2
     try go_quiet (fail)
     try go_wp2
     go_roundw
     case rel =>
       refine ⟨i + 1, by omega, congrArg (Value.int .i64) zO, fun j hj => ?_, fun j hj1 hj2 => ?_, fun j => ?_, by simp [World.setCell]; omega, HB.out.setCell (by simp) _⟩
       · by_cases e : j = i
         · subst e; exact World.cell?_setCell_same' _ _ _ (by rw [d1]; rfl)
         · exact (World.cell?_setCell_other _ ⟨w.heap.size, i, none⟩ ⟨w.heap.size, j, none⟩ _ (fun e' => by injection e'; omega)).trans (HM.out j zO)
       · exact (World.cell?_setCell_other _ ⟨w.heap.size, i, none⟩ ⟨w.heap.size, j, none⟩ _ (fun e' => by injection e'; omega)).trans (HR.out j zO hj2)
       · rw [World.frozen?_setCell]; exact HF.out j
     case measure => simp [intOf]; omega
   · obtain rfl : i = X.length := by omega
     have HM := Lib.hid hm
     have HF := Lib.hid hfr
     clear hm hr hfr hs hmk
     go_wp2
     go_ret
     exact ⟨_, rfl, ⟨_, X.length, rfl, Nat.le_refl _, .inr ⟨w.heap.size, 0, rfl, Nat.le_refl _, hsz, fun j hj => by rw [Nat.zero_add]; exact HM.out j hj, fun j _ => by rw [Nat.zero_add]; exact HF.out j⟩⟩, hB⟩
end
end Go.Proofs.YtblphilcmfabkaaGreatDoor
