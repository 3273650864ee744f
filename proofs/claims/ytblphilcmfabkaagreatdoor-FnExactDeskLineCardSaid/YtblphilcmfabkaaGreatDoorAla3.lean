/- Contracts and laws that the statement's proof stands on, one text behind the other. -/
import Derived.Test.YtblphilcmfabkaaGreatDoorAla2
import Derived.Test.YtblphilcmfabkaaGreatDoorHwTalkAskS
import Derived.Test.YtblphilcmfabkaaGreatDoorHwTalkTells
import Derived.MapKept
import Derived.Carry

namespace Go.Proofs.YtblphilcmfabkaaGreatDoor
section
open Go.RowKit
def qE : List MapEntry := [⟨.string ⟨#[112, 97, 105, 114]⟩, .agg #[.int .i64 0, .func (.func 111) #[] #[]], 0⟩, ⟨.string ⟨#[119, 101, 105, 103, 104, 116]⟩, .agg #[.int .i64 0, .func (.func 112) #[] #[]], 1⟩, ⟨.string ⟨#[102, 105, 114, 115, 116]⟩, .agg #[.int .i64 1, .func (.func 113) #[] #[]], 2⟩, ⟨.string ⟨#[115, 101, 99, 111, 110, 100]⟩, .agg #[.int .i64 1, .func (.func 114) #[] #[]], 3⟩, ⟨.string ⟨#[114, 97, 110, 107]⟩, .agg #[.int .i64 1, .func (.func 115) #[] #[]], 4⟩, ⟨.string ⟨#[112, 101, 114, 105, 111, 100]⟩, .agg #[.int .i64 1, .func (.func 116) #[] #[]], 5⟩, ⟨.string ⟨#[112, 97, 115, 115, 101, 115]⟩, .agg #[.int .i64 1, .func (.func 117) #[] #[]], 6⟩, ⟨.string ⟨#[119, 114, 105, 116, 116, 101, 110]⟩, .agg #[.int .i64 1, .func (.func 118) #[] #[]], 7⟩, ⟨.string ⟨#[102, 97, 114]⟩, .agg #[.int .i64 2, .func (.func 119) #[] #[]], 8⟩, ⟨.string ⟨#[99, 105, 114, 99, 108, 101]⟩, .agg #[.int .i64 2, .func (.func 120) #[] #[]], 9⟩]
def qAt (k : Nat) : Array MapEntry := (qE.take k).toArray
theorem alloc_put (w : World) (o o' : Obj) : ({ heap := (w.alloc o).heap.setIfInBounds w.heap.size o', tape := (w.alloc o).tape, drawn := (w.alloc o).drawn, os := (w.alloc o).os, output := (w.alloc o).output } : World) = w.alloc o' := by
 unfold World.alloc
 simp [Array.setIfInBounds, Array.set_push]
theorem qE_keys : ∀ y ∈ qE, MapKept.IsKey .string y.key := by
 intro y hy
 simp only [qE, List.mem_cons, List.mem_nil_iff, or_false] at hy
 rcases hy with rfl | rfl | rfl | rfl | rfl | rfl | rfl | rfl | rfl | rfl <;> trivial
theorem upd_at (w : World) (k : Nat) (s : ByteArray) (v : Value) (h : qE[k]? = some ⟨.string s, v, k⟩) (hn : ∀ x ∈ qE.take k, x.key ≠ .string s) :
   (Instr.mapUpdate 120 (.map (some w.heap.size)) (.string s) v).run Tryz.prog (w.alloc (.map (qAt k) k)) = .ok () (w.alloc (.map (qAt (k + 1)) (k + 1))) := by
 have hb : (w.alloc (.map (qAt k) k)).heap[w.heap.size]? = some (.map (qAt k) k) := heap_alloc_new w _
 have hk : MapKept.IsKey .string (.string s) := trivial
 have hf : Instr.findNow .string (.string s) (qAt k).toList 0 = some none := by
   rcases MapKept.findNow_spec hk (qAt k).toList 0 (fun x hx => qE_keys x (List.mem_of_mem_take hx)) with ⟨h1, _⟩ | ⟨j, e, h1, h2, h3⟩
   · exact h1
   · exact absurd h3 (hn e (List.mem_of_getElem? h2))
 have hp : (qAt k).push ⟨.string s, v, k⟩ = qAt (k + 1) := by
   obtain ⟨hlt, e⟩ := List.getElem?_eq_some_iff.1 h
   unfold qAt
   rw [List.push_toArray, List.take_succ_eq_append_getElem hlt, e]
 simp only [Instr.mapUpdate, Sem.run_bind, run_underlying Tryz.underlying120, MapKept.run_getObj_map hb, MapKept.run_checkKey Tryz.underlying9 hk, MapKept.run_findKey Tryz.underlying9 hf, Result.andThen, MapKept.run_setObj_map _ hb, hp, alloc_put]
set_option maxRecDepth 100000 in
set_option maxHeartbeats 1000000 in
theorem questions_at (w : World) : Calls Tryz.prog 87 #[] w fun e w' => e = .returned (.map (some w.heap.size)) ∧ w' = w.alloc (.map qE.toArray 10) := by
 have hmm := @run_makeMap Tryz.prog
 have h0 : (#[] : Array MapEntry) = qAt 0 := rfl
 obtain ⟨q, hq⟩ : ∃ q, qAt = q := ⟨_, rfl⟩
 have u0 := upd_at w 0 ⟨#[112, 97, 105, 114]⟩ (.agg #[.int .i64 0, .func (.func 111) #[] #[]]) rfl (by simp [qE])
 have u1 := upd_at w 1 ⟨#[119, 101, 105, 103, 104, 116]⟩ (.agg #[.int .i64 0, .func (.func 112) #[] #[]]) rfl (by simp [qE])
 have u2 := upd_at w 2 ⟨#[102, 105, 114, 115, 116]⟩ (.agg #[.int .i64 1, .func (.func 113) #[] #[]]) rfl (by simp [qE])
 have u3 := upd_at w 3 ⟨#[115, 101, 99, 111, 110, 100]⟩ (.agg #[.int .i64 1, .func (.func 114) #[] #[]]) rfl (by simp [qE])
 have u4 := upd_at w 4 ⟨#[114, 97, 110, 107]⟩ (.agg #[.int .i64 1, .func (.func 115) #[] #[]]) rfl (by simp [qE])
 have u5 := upd_at w 5 ⟨#[112, 101, 114, 105, 111, 100]⟩ (.agg #[.int .i64 1, .func (.func 116) #[] #[]]) rfl (by simp [qE])
 have u6 := upd_at w 6 ⟨#[112, 97, 115, 115, 101, 115]⟩ (.agg #[.int .i64 1, .func (.func 117) #[] #[]]) rfl (by simp [qE])
 have u7 := upd_at w 7 ⟨#[119, 114, 105, 116, 116, 101, 110]⟩ (.agg #[.int .i64 1, .func (.func 118) #[] #[]]) rfl (by simp [qE])
 have u8 := upd_at w 8 ⟨#[102, 97, 114]⟩ (.agg #[.int .i64 2, .func (.func 119) #[] #[]]) rfl (by simp [qE])
 have u9 := upd_at w 9 ⟨#[99, 105, 114, 99, 108, 101]⟩ (.agg #[.int .i64 2, .func (.func 120) #[] #[]]) rfl (by simp [qE])
 rw [hq] at h0
 simp only [hq] at u0 u1 u2 u3 u4 u5 u6 u7 u8 u9
 rw [h0] at hmm
 have hl : q 10 = qE.toArray := by rw [← hq]; rfl
 clear hq h0
 go_enter Tryz.func87, Tryz.ntmps87
 go_wp2
 go_ret
 exact ⟨rfl, by rw [← hl]⟩
theorem look_has (W : World) (m k : Nat) (s : ByteArray) (v : Value) (hb : W.heap[m]? = some (.map qE.toArray 10)) (h : Instr.findNow .string (.string s) qE 0 = some (some (k, v))) :
   (Instr.lookup 120 (.map (some m)) (.string s) true).run Tryz.prog W = .ok (.tuple #[v, .bool true]) W := by
 have hk : MapKept.IsKey .string (.string s) := trivial
 simp only [Instr.lookup, Sem.run_bind, Sem.run_pure, run_underlying Tryz.underlying120, MapKept.run_getObj_map hb, MapKept.run_checkKey Tryz.underlying9 hk, MapKept.run_findKey Tryz.underlying9 h, Result.andThen, if_true]
theorem look_not (W : World) (m : Nat) (s : ByteArray) (z : Value) (hb : W.heap[m]? = some (.map qE.toArray 10)) (hz : (zeroValue 118).run Tryz.prog W = .ok z W) (h : ∀ x ∈ qE, x.key ≠ .string s) :
   (Instr.lookup 120 (.map (some m)) (.string s) true).run Tryz.prog W = .ok (.tuple #[z, .bool false]) W := by
 have hk : MapKept.IsKey .string (.string s) := trivial
 have hf : Instr.findNow .string (.string s) qE 0 = some none := by
   rcases MapKept.findNow_spec hk qE 0 qE_keys with ⟨h1, _⟩ | ⟨j, e, h1, h2, h3⟩
   · exact h1
   · exact absurd h3 (h e (List.mem_of_getElem? h2))
 simp only [Instr.lookup, Sem.run_bind, Sem.run_pure, run_underlying Tryz.underlying120, MapKept.run_getObj_map hb, MapKept.run_checkKey Tryz.underlying9 hk, MapKept.run_findKey Tryz.underlying9 hf, hz, Result.andThen, if_true]
end
section
open Go.RowKit Go.Shelf
theorem arrA (t : Array Value) (h : t.size = 44) : t = #[t.getD 0 undef, t.getD 1 undef, t.getD 2 undef, t.getD 3 undef, t.getD 4 undef, t.getD 5 undef, t.getD 6 undef, t.getD 7 undef, t.getD 8 undef, t.getD 9 undef, t.getD 10 undef, t.getD 11 undef, t.getD 12 undef, t.getD 13 undef, t.getD 14 undef, t.getD 15 undef, t.getD 16 undef, t.getD 17 undef, t.getD 18 undef, t.getD 19 undef, t.getD 20 undef, t.getD 21 undef, t.getD 22 undef, t.getD 23 undef, t.getD 24 undef, t.getD 25 undef, t.getD 26 undef, t.getD 27 undef, t.getD 28 undef, t.getD 29 undef, t.getD 30 undef, t.getD 31 undef, t.getD 32 undef, t.getD 33 undef, t.getD 34 undef, t.getD 35 undef, t.getD 36 undef, t.getD 37 undef, t.getD 38 undef, t.getD 39 undef, t.getD 40 undef, t.getD 41 undef, t.getD 42 undef, t.getD 43 undef] := by
 apply Array.ext
 · simpa using h
 · intro i h1 h2
   have h3 : i < 44 := by omega
   rcases (show i = 0 ∨ i = 1 ∨ i = 2 ∨ i = 3 ∨ i = 4 ∨ i = 5 ∨ i = 6 ∨ i = 7 ∨ i = 8 ∨ i = 9 ∨ i = 10 ∨ i = 11 ∨ i = 12 ∨ i = 13 ∨ i = 14 ∨ i = 15 ∨ i = 16 ∨ i = 17 ∨ i = 18 ∨ i = 19 ∨ i = 20 ∨ i = 21 ∨ i = 22 ∨ i = 23 ∨ i = 24 ∨ i = 25 ∨ i = 26 ∨ i = 27 ∨ i = 28 ∨ i = 29 ∨ i = 30 ∨ i = 31 ∨ i = 32 ∨ i = 33 ∨ i = 34 ∨ i = 35 ∨ i = 36 ∨ i = 37 ∨ i = 38 ∨ i = 39 ∨ i = 40 ∨ i = 41 ∨ i = 42 ∨ i = 43 by omega) with rfl | rfl | rfl | rfl | rfl | rfl | rfl | rfl | rfl | rfl | rfl | rfl | rfl | rfl | rfl | rfl | rfl | rfl | rfl | rfl | rfl | rfl | rfl | rfl | rfl | rfl | rfl | rfl | rfl | rfl | rfl | rfl | rfl | rfl | rfl | rfl | rfl | rfl | rfl | rfl | rfl | rfl | rfl | rfl <;> simp [Array.getD_eq_getD_getElem?, h1]
theorem actA (t : Array Value) (h : t.size = 44) (v0 : Value) (v1 : Value) (v2 : Value) (v5 : Value) (v6 : Value) (v7 : Value) (h0 : t.getD 0 undef = v0) (h1 : t.getD 1 undef = v1) (h2 : t.getD 2 undef = v2) (h5 : t.getD 5 undef = v5) (h6 : t.getD 6 undef = v6) (h7 : t.getD 7 undef = v7) : ∃ u3 u4 u8 u9 u10 u11 u12 u13 u14 u15 u16 u17 u18 u19 u20 u21 u22 u23 u24 u25 u26 u27 u28 u29 u30 u31 u32 u33 u34 u35 u36 u37 u38 u39 u40 u41 u42 u43 : Value, t = #[v0, v1, v2, u3, u4, v5, v6, v7, u8, u9, u10, u11, u12, u13, u14, u15, u16, u17, u18, u19, u20, u21, u22, u23, u24, u25, u26, u27, u28, u29, u30, u31, u32, u33, u34, u35, u36, u37, u38, u39, u40, u41, u42, u43] :=
 ⟨_, _, _, _, _, _, _, _, _, _, _, _, _, _, _, _, _, _, _, _, _, _, _, _, _, _, _, _, _, _, _, _, _, _, _, _, _, _, by rw [← h0, ← h1, ← h2, ← h5, ← h6, ← h7]; exact arrA t h⟩
theorem cell_out (w : World) (s o : Nat) (h : w.heap.size ≤ s) : w.cell? ⟨s, o, none⟩ = none := by unfold World.cell?; rw [Array.getElem?_eq_none h]
theorem cell_mapnew (w : World) (es : Array MapEntry) (c o : Nat) : (w.alloc (.map es c)).cell? ⟨w.heap.size, o, none⟩ = none := by unfold World.cell?; rw [heap_alloc_new]
theorem cell_allocold (w : World) (ob : Obj) (s o : Nat) (h : s < w.heap.size) : (w.alloc ob).cell? ⟨s, o, none⟩ = w.cell? ⟨s, o, none⟩ := World.cell?_alloc_lt _ _ _ h
theorem map_setCell {w : World} {i : Nat} {es : Array MapEntry} {c : Nat} (a : Addr) (v : Value) (h : w.heap[i]? = some (.map es c)) : (w.setCell a v).heap[i]? = some (.map es c) := by
 by_cases e : i = a.block
 · subst e
   unfold World.setCell
   simp only [Array.getElem?_modify, if_true, h, Option.map_some]
 · rw [Below.heap_setCell _ _ _ _ e]; exact h
theorem some_setCell {w : World} {s : Nat} (a : Addr) (v : Value) (h : (w.cell? ⟨s, 0, none⟩).isSome = true) : ((w.setCell a v).cell? ⟨s, 0, none⟩).isSome = true := by
 by_cases e : (⟨s, 0, none⟩ : Addr) = a
 · subst e; rw [World.cell?_setCell_same' _ _ _ h]; rfl
 · rw [World.cell?_setCell_other _ _ _ _ (fun x => e x.symm)]; exact h
theorem heap_oldA (w : World) (o : Obj) (i : Nat) (h : i < w.heap.size) : (w.alloc o).heap[i]? = w.heap[i]? := by first | exact heap_alloc_old w o i h | exact heap_alloc_old w o h
def GrowA (w w' : World) : Prop := w.heap.size ≤ w'.heap.size ∧ (∀ (i : Nat) es c, w.heap[i]? = some (.map es c) → w'.heap[i]? = some (.map es c)) ∧ ∀ s, (w.cell? ⟨s, 0, none⟩).isSome = true → (w'.cell? ⟨s, 0, none⟩).isSome = true
theorem growA_refl (w : World) : GrowA w w := ⟨Nat.le_refl _, fun _ _ _ h => h, fun _ h => h⟩
theorem growA_alloc (w : World) (o : Obj) : GrowA w (w.alloc o) := ⟨by simp, fun i es c h => by
 have hlt : i < w.heap.size := (Array.getElem?_eq_some_iff.1 h).1
 rw [heap_oldA w o i hlt]; exact h, fun s h => by
 rcases Nat.lt_or_ge s w.heap.size with hs | hs
 · rw [cell_allocold _ _ _ _ hs]; exact h
 · rw [cell_out _ _ _ hs] at h; cases h⟩
theorem growA_set (w : World) (a : Addr) (v : Value) : GrowA w (w.setCell a v) := ⟨by simp [World.setCell], fun i es c h => map_setCell a v h, fun s h => some_setCell a v h⟩
theorem growA_trans {w w' w'' : World} (h : GrowA w w') (k : GrowA w' w'') : GrowA w w'' := ⟨Nat.le_trans h.1 k.1, fun i es c x => k.2.1 i es c (h.2.1 i es c x), fun s x => k.2.2 s (h.2.2 s x)⟩
def askP (B g Pn cap : Nat) (wd : ByteArray) (n : Int) (fn : Value) (b : Bool) (j : Nat) (v : Value) (w : World) : Prop :=
 match j with
 | 0 => ∃ m, v = .map (some m) ∧ w.heap[m]? = some (.map qE.toArray 10)
 | 1 => v = .slice (some ⟨g, 0, none⟩) Pn cap
 | 2 => v = .pointer (some ⟨g, 0, none⟩)
 | 3 => v = .string wd
 | 4 => v = .tuple #[.agg #[.int .i64 n, fn], .bool b]
 | 5 => v = .tuple #[.agg #[.int .i64 n, fn], .bool b]
 | 6 => v = .agg #[.int .i64 n, fn]
 | 7 => v = .bool b
 | 8 => ∃ s, v = .pointer (some ⟨s, 0, none⟩) ∧ B ≤ s ∧ (w.cell? ⟨s, 0, none⟩).isSome = true
 | _ => v = .bool b
theorem askP_mono (B g Pn cap : Nat) (wd : ByteArray) (n : Int) (fn : Value) (b : Bool) (j : Nat) (v : Value) (w w' : World) (hg : GrowA w w') (h : askP B g Pn cap wd n fn b j v w) : askP B g Pn cap wd n fn b j v w' := by
 unfold askP at *
 split at h
 · obtain ⟨m, e, hm⟩ := h; exact ⟨m, e, hg.2.1 m _ _ hm⟩
 all_goals first | exact h | skip
 obtain ⟨s, e, h1, h2⟩ := h
 exact ⟨s, e, h1, hg.2.2 s h2⟩
def OnlyA (B s : Nat) (w : World) : Prop := B ≤ s ∧ s < w.heap.size ∧ (∀ s' o, B ≤ s' → s' ≠ s → w.cell? ⟨s', o, none⟩ = none) ∧ w.frozen? ⟨s, 0, none⟩ = false ∧ w.frozen? ⟨s, 1, none⟩ = false
def askG (W : World) (n : Int) (fn : Value) (l : Array Bool) (w : World) : Prop :=
 Below W.heap.size W w ∧ (l.getD 9 false = true → l.getD 8 false = true) ∧ (l.getD 8 false = false → ∀ s o, W.heap.size ≤ s → w.cell? ⟨s, o, none⟩ = none) ∧
 (l.getD 8 false = true → ∃ s x y, OnlyA W.heap.size s w ∧ w.cell? ⟨s, 0, none⟩ = some x ∧ w.cell? ⟨s, 1, none⟩ = some y ∧ (l.getD 9 false = true → x = .int .i64 n ∧ y = fn))
theorem askG_same {W w : World} {n : Int} {fn : Value} {l : Array Bool} {i : Nat} (h : askG W n fn l w) (h8 : i ≠ 8) (h9 : i ≠ 9) : askG W n fn (l.setIfInBounds i true) w := by
 unfold askG at *
 rw [getD_set_other _ h8, getD_set_other _ h9]
 exact h
theorem askG_map {W w : World} {n : Int} {fn : Value} {l : Array Bool} (h : askG W n fn l w) : askG W n fn (l.setIfInBounds 0 true) (w.alloc (.map qE.toArray 10)) := by
 obtain ⟨hB, h98, h1, h2⟩ := h
 have hz := hB.size
 refine ⟨hB.alloc hz _, by rw [getD_set_other _ zd, getD_set_other _ zd]; exact h98, fun h8 s o hs => ?_, fun h8 => ?_⟩
 · rw [getD_set_other _ zd] at h8
   rcases Nat.lt_or_ge s w.heap.size with hl | hl
   · rw [cell_allocold _ _ _ _ hl]; exact h1 h8 s o hs
   · rcases Nat.eq_or_lt_of_le hl with he | hl
     · rw [← he]; exact cell_mapnew _ _ _ _
     · exact cell_out _ _ _ (by simp; omega)
 · rw [getD_set_other _ zd] at h8
   obtain ⟨s, x, y, ⟨o1, o2, o3, o4, o5⟩, c0, c1, h9⟩ := h2 h8
   refine ⟨s, x, y, ⟨o1, by simp; omega, fun s' o hs hne => ?_, ?_, ?_⟩, ?_, ?_, fun h => h9 (by rwa [getD_set_other _ zd] at h)⟩
   · rcases Nat.lt_or_ge s' w.heap.size with hl | hl
     · rw [cell_allocold _ _ _ _ hl]; exact o3 s' o hs hne
     · rcases Nat.eq_or_lt_of_le hl with he | hl
       · rw [← he]; exact cell_mapnew _ _ _ _
       · exact cell_out _ _ _ (by simp; omega)
   · rw [World.frozen?_of_block (a := ⟨s, 0, none⟩) (heap_oldA w _ s o2)]; exact o4
   · rw [World.frozen?_of_block (a := ⟨s, 1, none⟩) (heap_oldA w _ s o2)]; exact o5
   · rw [cell_allocold _ _ _ _ o2]; exact c0
   · rw [cell_allocold _ _ _ _ o2]; exact c1
theorem askG_new {W w : World} {n : Int} {fn : Value} {l : Array Bool} (h : askG W n fn l w) (h8 : l.getD 8 true = false) (t : TypeId) (x y : Value) : askG W n fn (l.setIfInBounds 8 true) (w.alloc (.cells #[x, y] t)) := by
 obtain ⟨hB, h98, h1, h2⟩ := h
 have hz := hB.size
 have h8' : l.getD 8 false = false := by
   rcases Nat.lt_or_ge 8 l.size with hx | hx
   · simp [Array.getD_eq_getD_getElem?, hx] at h8 ⊢; exact h8
   · simp [Array.getD_eq_getD_getElem?, Array.getElem?_eq_none hx]
 have h9 : (l.setIfInBounds 8 true).getD 9 false = false := by
   rw [getD_set_other _ zd]
   cases h : l.getD 9 false with
   | false => rfl
   | true => rw [h98 h] at h8'; cases h8'
 refine ⟨hB.alloc hz _, fun _ => getD_set_self h8, fun h => ?_, fun _ => ⟨w.heap.size, x, y, ⟨hz, by simp, fun s' o hs hne => ?_, ?_, ?_⟩, World.cell?_alloc_mark _ _ _ _ _, World.cell?_alloc_mark _ _ _ _ _, fun h => by rw [h9] at h; cases h⟩⟩
 · rw [getD_set_self h8] at h; cases h
 · rcases Nat.lt_or_ge s' w.heap.size with hl | hl
   · rw [cell_allocold _ _ _ _ hl]; exact h1 h8' s' o hs
   · exact cell_out _ _ _ (by simp; omega)
 · unfold World.frozen?; rw [heap_alloc_new]; simp
 · unfold World.frozen?; rw [heap_alloc_new]; simp
theorem askG_put {W w : World} {n : Int} {fn : Value} {l : Array Bool} {s : Nat} {x y : Value} (hB : Below W.heap.size W w) (h8 : l.getD 8 false = true) (ho : OnlyA W.heap.size s w) (c0 : w.cell? ⟨s, 0, none⟩ = some x) (c1 : w.cell? ⟨s, 1, none⟩ = some y) : askG W n fn (l.setIfInBounds 9 true) ((w.setCell ⟨s, 0, none⟩ (.int .i64 n)).setCell ⟨s, 1, none⟩ fn) := by
 obtain ⟨o1, o2, o3, o4, o5⟩ := ho
 refine ⟨(hB.setCell (p := ⟨s, 0, none⟩) o1 _).setCell (p := ⟨s, 1, none⟩) o1 _, fun _ => by rw [getD_set_other _ zd]; exact h8, fun h => ?_, fun _ => ⟨s, .int .i64 n, fn, ⟨o1, by simpa [World.setCell] using o2, fun s' o hs hne => ?_, ?_, ?_⟩, ?_, ?_, fun _ => ⟨rfl, rfl⟩⟩⟩
 · rw [getD_set_other _ zd, h8] at h; cases h
 · rw [World.cell?_setCell_other _ _ _ _ (fun e => hne (by injection e with e1; exact e1.symm)), World.cell?_setCell_other _ _ _ _ (fun e => hne (by injection e with e1; exact e1.symm))]
   exact o3 s' o hs hne
 · rw [World.frozen?_setCell, World.frozen?_setCell]; exact o4
 · rw [World.frozen?_setCell, World.frozen?_setCell]; exact o5
 · rw [World.cell?_setCell_other _ _ _ _ (fun e => by injection e with _ e2; cases e2), World.cell?_setCell_same' _ _ _ (by rw [c0]; rfl)]
 · rw [World.cell?_setCell_same' _ _ _ (by rw [World.cell?_setCell_other _ _ _ _ (fun e => by injection e with _ e2; cases e2), c1]; rfl)]
end
end Go.Proofs.YtblphilcmfabkaaGreatDoor
