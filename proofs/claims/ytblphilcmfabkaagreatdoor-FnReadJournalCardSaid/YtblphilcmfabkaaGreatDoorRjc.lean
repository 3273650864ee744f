/- Contracts and laws that the statement's proof stands on, one text behind the other. -/
import Derived.Test.YtblphilcmfabkaaGreatDoorRjb
import Derived.BigQuiet
import Derived.OwnWalk
import Derived.Lib.IndexLaws
import Derived.Shelf.Strings.Builder1
import Derived.Lib.Strings
import Derived.RangeFuncBox
import Derived.Deep.Cut
import Derived.Deep.DeepCutAuto
import Derived.Deep.RegionHeld3

namespace Go.Proofs.YtblphilcmfabkaaGreatDoor
section
open Go.RowKit
theorem below_drewsD {B : Nat} {a w : World} (h : Below B a w) (n : Nat) : Below B a (w.drewN n) := ⟨h.os, h.tape, h.output, h.size, h.block⟩
set_option maxHeartbeats 1000000 in
theorem lcut_none (s : ByteArray) (w : World) (h : Lib.indexByte s.data.toList 10 = -1) : Calls Tryz.prog 79 #[.string s, .string ⟨#[10]⟩] w fun e w' => e = .returned (.tuple #[.string s, .string ⟨#[]⟩, .bool false]) ∧ Below w.heap.size w w' := by
 have hc := fun W => Tryz.stringslite_Index_one s 10 W
 rw [h] at hc
 go_enter Tryz.func79, Tryz.ntmps79
 go_wp2_with fail
 refine (hc _).mono ?_
 rintro e w1 ⟨rfl, rfl⟩
 go_wp2
 go_ret3
 exact ⟨rfl, Below.refl _ _⟩
set_option maxHeartbeats 1000000 in
theorem lcut_some (s : ByteArray) (o : Nat) (w : World) (h : Lib.indexByte s.data.toList 10 = o) (ho : o < s.size) (hs : s.size ≤ 2097152) : Calls Tryz.prog 79 #[.string s, .string ⟨#[10]⟩] w fun e w' => e = .returned (.tuple #[.string (s.extract 0 o), .string (s.extract (o + 1) s.size), .bool true]) ∧ Below w.heap.size w w' := by
 have hc := fun W => Tryz.stringslite_Index_one s 10 W
 rw [h] at hc
 have h0 : (0 : Int) ≤ (o : Int) := by omega
 have h1 : (o : Int) ≤ (s.size : Int) := by omega
 have h2 : (o : Int) + 1 ≤ (s.size : Int) := by omega
 have h3 : (0 : Int) ≤ (o : Int) + 1 := by omega
 have Wo : IntKind.i64.wrap ((o : Int) + 1) = (o : Int) + 1 := by rw [IntKind.wrap_i64]; omega
 have ht : ((o : Int) + 1).toNat = o + 1 := by omega
 go_enter Tryz.func79, Tryz.ntmps79
 go_wp2_with fail
 refine (hc _).mono ?_
 rintro e w1 ⟨rfl, rfl⟩
 go_wp2
 go_quiet (fail)
 go_wp2
 go_ret3
 exact ⟨rfl, below_drewsD (Below.refl _ _) _⟩
set_option maxHeartbeats 1000000 in
theorem scut_of (s a b : ByteArray) (v : Bool) (w : World) (h : ∀ W, Calls Tryz.prog 79 #[.string s, .string ⟨#[10]⟩] W fun e w' => e = .returned (.tuple #[.string a, .string b, .bool v]) ∧ Below W.heap.size W w') : Calls Tryz.prog 43 #[.string s, .string ⟨#[10]⟩] w fun e w' => e = .returned (.tuple #[.string a, .string b, .bool v]) ∧ Below w.heap.size w w' := by
 go_enter Tryz.func43, Tryz.ntmps43
 go_wp2_with fail
 refine (h _).mono ?_
 rintro e w1 ⟨rfl, hb⟩
 go_wp2
 go_ret3
 exact ⟨rfl, hb⟩
theorem line_at (s : ByteArray) (l : List UInt8) (fr : Nat) (X : List DeedN) (hl : s.data.toList = l) (hs : s.size ≤ 1048600) (hj : JAt l X fr fr) :
   ∃ (line rest : ByteArray) (ended : Bool), (∀ W, Calls Tryz.prog 43 #[.string (s.extract fr s.size), .string ⟨#[10]⟩] W fun e w' => e = .returned (.tuple #[.string line, .string rest, .bool ended]) ∧ Below W.heap.size W w') ∧ line.size ≤ s.size - fr ∧
     (ended = false → readJ [] l = (X, fr)) ∧
     (ended = true → readN line.data.toList = none → readJ [] l = (X, fr)) ∧
     (ended = true → fr + line.size + 1 ≤ s.size ∧ ∀ x, readN line.data.toList = some x → JAt l (X ++ [x]) (fr + line.size + 1) (fr + line.size + 1)) := by
 have hsl : l.length = s.size := by rw [← hl]; exact bl_size s
 have hfr := hj.2.2.2
 have htl : (s.extract fr s.size).data.toList = l.drop fr := by
   rw [extract_txt, hl]
   show (l.drop fr).take (s.size - fr) = _
   exact List.take_of_length_le (by rw [List.length_drop]; omega)
 have hts : (s.extract fr s.size).size = s.size - fr := by simp [ByteArray.size_extract]
 obtain ⟨t, ht⟩ : ∃ t, s.extract fr s.size = t := ⟨_, rfl⟩
 rw [ht] at htl hts ⊢
 have hge := Lib.indexByte_ge t.data.toList 10
 by_cases hn : Lib.indexByte t.data.toList 10 = -1
 · refine ⟨t, ⟨#[]⟩, false, fun W => scut_of _ _ _ _ W fun W' => lcut_none t W' hn, by omega, fun _ => ?_, fun h => absurd h zd, fun h => absurd h zd⟩
   have hno := Lib.indexByte_none hn
   rw [htl] at hno
   exact jat_end (jat_skip hj (l.length - fr) zO fun k _ => hno k) zO
 · obtain ⟨o, ho⟩ : ∃ o : Nat, Lib.indexByte t.data.toList 10 = o := ⟨(Lib.indexByte t.data.toList 10).toNat, by omega⟩
   obtain ⟨h1, h2⟩ := Lib.indexByte_some ho
   have hol : o < t.data.toList.length := (List.getElem?_eq_some_iff.1 h1).1
   have hot : o < t.size := by rw [← bl_size t]; exact hol
   rw [htl] at h1 h2
   have hsk := jat_skip hj o zO h2
   have hlen : fr + o < l.length := by omega
   have hc : l[fr + o] = 10 := by
     rw [List.getElem?_drop, List.getElem?_eq_getElem hlen] at h1
     exact Option.some.inj h1
   have hln : (t.extract 0 o).data.toList = (l.drop fr).take (fr + o - fr) := by
     rw [extract_txt, htl]
     show ((l.drop fr).drop 0).take (o - 0) = _
     rw [List.drop_zero, Nat.sub_zero, Nat.add_sub_cancel_left]
   have hlsz : (t.extract 0 o).size = o := by simp [ByteArray.size_extract]; omega
   refine ⟨t.extract 0 o, t.extract (o + 1) t.size, true, fun W => scut_of _ _ _ _ W fun W' => lcut_some t o W' ho hot zO, by omega, fun h => absurd h zd, fun _ hr => ?_, fun _ => ⟨by omega, fun x hr => ?_⟩⟩
   · rw [hln] at hr
     exact jat_stop hsk hlen hc hr
   · rw [hln] at hr
     rw [hlsz]
     exact jat_more hsk hlen hc hr
set_option maxRecDepth 100000 in
set_option maxHeartbeats 4000000 in
theorem implReadJ_any (s : ByteArray) (w : World) (hs : s.size ≤ 1048600) (ht : PowTab w) (he : Errs w) : Calls Tryz.prog 9 #[.string s] w (JournS w s.data.toList) := by
 obtain ⟨i0, hi0, hz0, hzs1, hz2⟩ := info_parts3 info_deed
 have hsl : s.data.toList.length = s.size := bl_size s
 obtain ⟨l, hl⟩ : ∃ l, s.data.toList = l := ⟨_, rfl⟩
 have HL := Lib.hid hl
 have HT := Lib.hid ht
 have HE := Lib.hid he
 rw [hl] at hsl ⊢
 clear hl ht he
 go_enter Tryz.func9, Tryz.ntmps9
 go_wp2_with fail
 go_loopw [4, 5] (fun x4 x5 wr => ∃ (fr : Nat) (X : List DeedN) (a : Option Addr) (c : Nat), x4 = .slice a X.length c ∧ x5 = .int .i64 fr ∧ JAt l X fr fr ∧ wr.ownsRow w.heap.size 40 3 (.slice a X.length c) X.length (deedCells X) ∧ Below w.heap.size w wr) (fun _ x5 _ => 2097200 - (intOf x5).toNat)
 case atStart => exact ⟨0, [], none, 0, rfl, rfl, jat_start l, World.ownsRow_nil _ _ _ _, Below.refl _ _⟩
 case round =>
   obtain ⟨fr, X, a, c, rfl, rfl, hj, hO, hB⟩ := hrel
   have hX := hj.2.1
   have hfs := hj.2.2.2
   have hf0 : (0 : Int) ≤ (fr : Int) := by omega
   have hfs' : (fr : Int) ≤ (s.size : Int) := by omega
   have HO := Lib.hid hO
   have HB := Lib.hid hB
   have hlk := hO.lt
   have hz0' := hB.size
   obtain ⟨line, rest, ended, hcut, hsz, hv1, hv2, hv3⟩ := line_at s l fr X HL.out hs hj
   have HCUT := Lib.hid hcut
   have HV1 := Lib.hid hv1
   have HV2 := Lib.hid hv2
   have HV3 := Lib.hid hv3
   clear hO hB hj hcut hv1 hv2 hv3
   have hrd := fun W hW hW' => implDeedRead_any line W zO hW hW'
   go_wp2_with fail
   refine (HCUT.out _).mono ?_
   rintro e w1 ⟨rfl, hb1⟩
   have hz1 := hb1.size
   have HO1 := Lib.hid (own_keeps HO.out hb1)
   have HB1 := Lib.hid (HB.out.trans (hb1.mono hz0'))
   clear hb1 HO HB
   cases hr : readN line.data.toList with
   | none =>
     rw [deedV_none hr] at hrd
     have HR := Lib.hid hr
     have HRD := Lib.hid hrd
     clear hr hrd
     go_wp2_with fail
     refine (HRD.out _ (HT.out.below HB1.out (Nat.le_refl _)) (HE.out.below HB1.out (Nat.le_refl _))).mono ?_
     rintro e w2 ⟨rfl, hb2⟩
     have hz2' := hb2.size
     have HO2 := Lib.hid (own_keeps HO1.out hb2)
     have HB2 := Lib.hid (HB1.out.trans (hb2.mono zO))
     have HQ := Lib.hid (show readJ [] l = (X, fr) by
       cases ended with
       | false => exact HV1.out rfl
       | true => exact HV2.out rfl HR.out)
     clear hb2 HO1 HB1 HR HV1 HV2 HV3 HRD HCUT
     cases ended with
     | false =>
       go_wp2
       go_ret2
       exact journS_at HQ.out (own_keeps HO2.out (by (repeat (first | exact Below.refl _ _ | refine Below.setCell ?_ zo _ | refine Below.alloc ?_ zo _)))) (by (repeat (first | exact HB2.out | refine Below.setCell ?_ zo _ | refine Below.alloc ?_ zo _)))
     | true =>
       go_wp2
       go_ret2
       exact journS_at HQ.out (own_keeps HO2.out (by (repeat (first | exact Below.refl _ _ | refine Below.setCell ?_ zo _ | refine Below.alloc ?_ zo _)))) (by (repeat (first | exact HB2.out | refine Below.setCell ?_ zo _ | refine Below.alloc ?_ zo _)))
   | some x =>
     obtain ⟨k, p, q⟩ := x
     rw [deedV_some hr] at hrd
     have HR := Lib.hid hr
     have HRD := Lib.hid hrd
     clear hr hrd
     go_wp2_with fail
     refine (HRD.out _ (HT.out.below HB1.out (Nat.le_refl _)) (HE.out.below HB1.out (Nat.le_refl _))).mono ?_
     rintro e w2 ⟨rfl, hb2⟩
     dsimp only
     have hz2' := hb2.size
     have HO2 := Lib.hid (own_keeps HO1.out hb2)
     have HB2 := Lib.hid (HB1.out.trans (hb2.mono zO))
     clear hb2 HO1 HB1 HRD HCUT
     cases ended with
     | false =>
       have HQ := Lib.hid (HV1.out rfl)
       clear HR HV1 HV2 HV3
       go_wp2
       go_ret2
       exact journS_at HQ.out (own_keeps HO2.out (by (repeat (first | exact Below.refl _ _ | refine Below.setCell ?_ zo _ | refine Below.alloc ?_ zo _)))) (by (repeat (first | exact HB2.out | refine Below.setCell ?_ zo _ | refine Below.alloc ?_ zo _)))
     | true =>
       obtain ⟨hle, hnx⟩ := HV3.out rfl
       have HJ := Lib.hid (hnx _ HR.out)
       clear HR HV1 HV2 HV3 hnx
       have Wl : IntKind.i64.wrap ((line.size : Int) + 1) = (line.size : Int) + 1 := by rw [IntKind.wrap_i64]; omega
       have Wf : IntKind.i64.wrap ((fr : Int) + ((line.size : Int) + 1)) = ((fr + line.size + 1 : Nat) : Int) := by rw [IntKind.wrap_i64]; omega
       go_wp2_with (at_builtin; refine wpList_append_deeds _ rfl _ _ 24 rfl w.heap.size 40 i0 _ 24 Tryz.underlying24 hi0 hz0 hzs1 hz2 rfl (.slice a X.length c) X.length (deedCells X) rfl ((HO2.out.alloc _).alloc _) (w2.heap.size + 1) (w2.heap.size + 2) _ [⟨k, p, q⟩] rfl (IsDeeds.new _ k p q _ _ (by simp)) (X.length + 1) rfl (deedCells (X ++ [⟨k, p, q⟩])) (deedCells_append _ _) (by unfold maxLen; omega) zO (by simp; omega) ?_)
       intro a7 c7 w7 hown7 hgrow7 hat7
       have HB7 := Lib.hid (show Below w.heap.size w w7 from ((HB2.out.alloc zO _).alloc (by simp; omega) _).grown hgrow7 (by simp; omega) (fun g e => (hlk g e).1))
       have HO7 := Lib.hid hown7
       clear hown7 hgrow7 hat7 HO2
       go_wp2
       go_roundw
       case rel => exact ⟨fr + line.size + 1, X ++ [⟨k, p, q⟩], a7, c7, by simp, rfl, HJ.out, by simpa using HO7.out, HB7.out⟩
       case measure => simp [intOf]; omega
end
section
open Go.RowKit Go.Shelf
theorem info_u8J : (Tryz.prog.info? 5).map (fun i => (i.zero, i.size, i.bytes)) = some (some (.int .u8 0), 1, 1) := by kernel_rfl
theorem builder_infoJ : ∃ j, Tryz.prog.info? 86 = some j ∧ j.size ≠ 0 := by
 obtain ⟨j, hj, hs⟩ := Option.map_eq_some_iff.1 (show (Tryz.prog.info? 86).map TypeInfo.size = some 2 by kernel_rfl)
 exact ⟨j, hj, by rw [hs]; decide⟩
set_option maxHeartbeats 1000000 in
set_option maxRecDepth 100000 in
theorem copyUsed_atJ (b : Nat) (w : World) (h0 : w.cell? ⟨b, 0, none⟩ = some (.pointer (some ⟨b, 0, none⟩))) : Calls Tryz.prog 93 #[.pointer (some ⟨b, 0, none⟩)] w fun e w' => e = .returned (.tuple #[]) ∧ w' = w := by
 obtain ⟨j, hj, _⟩ := builder_infoJ
 have hsame := fun w => Lib.run_neq_ptr_same w ⟨b, 0, none⟩ Tryz.underlying84 hj
 go_enter Tryz.func93, Tryz.ntmps93
 go_wp2
 go_end0
 exact ⟨rfl, rfl⟩
set_option maxHeartbeats 1000000 in
set_option maxRecDepth 100000 in
theorem copyFresh_atJ (b : Nat) (w : World) (h0 : w.cell? ⟨b, 0, none⟩ = some (.pointer none)) (hsh : w.shape? b = some (86, 2)) (hfz : w.frozen? ⟨b, 0, none⟩ = false) :
   Calls Tryz.prog 93 #[.pointer (some ⟨b, 0, none⟩)] w fun e w' => e = .returned (.tuple #[]) ∧ w' = w.setCell ⟨b, 0, none⟩ (.pointer (some ⟨b, 0, none⟩)) := by
 obtain ⟨j, hj, hjs⟩ := builder_infoJ
 have hto := Lib.run_to_unsafe w ⟨b, 0, none⟩ Tryz.underlying84 Tryz.underlying143 hj hjs hsh (Nat.zero_lt_succ 1)
 have hfrom := Lib.run_from_unsafe w ⟨b, 0, none⟩ Tryz.underlying143 Tryz.underlying84 hj hsh (by kernel_rfl)
 have hsame := fun w => Lib.run_neq_ptr_same w ⟨b, 0, none⟩ Tryz.underlying84 hj
 have hne : ∀ (x : Value) (w : World), (callFunc 124 #[x]).run Tryz.prog w = .ok (.value x) w := fun x w => by rw [run_callFunc_extern Tryz.func124 (by kernel_rfl) (by kernel_rfl) (by kernel_rfl) (e := Extern.AbiNoEscape.same) (by kernel_rfl)]; rfl
 go_enter Tryz.func93, Tryz.ntmps93
 go_wp2
 go_end0
 exact ⟨rfl, rfl⟩
theorem copy_anyJ (B b : Nat) (bs : List Value) (w : World) (h : Lib.IsBuilder 86 5 B b bs w) :
   Calls Tryz.prog 93 #[.pointer (some ⟨b, 0, none⟩)] w fun e w' => e = .returned (.tuple #[]) ∧ Lib.BuilderAt 86 5 B b (.pointer (some ⟨b, 0, none⟩)) bs w' ∧ Below B w w' := by
 rcases h with h | h
 · refine (copyFresh_atJ b w h.cell0 h.shape h.frozen0).mono ?_
   rintro e w' ⟨rfl, rfl⟩
   exact ⟨rfl, h.used _, (Below.refl B w).setCell (p := ⟨b, 0, none⟩) h.1 _⟩
 · refine (copyUsed_atJ b w h.cell0).mono ?_
   rintro e w' ⟨rfl, rfl⟩
   exact ⟨rfl, h, Below.refl B _⟩
set_option maxHeartbeats 2000000 in
set_option maxRecDepth 100000 in
theorem writeByte_anyJ (B b : Nat) (bs : List Value) (c : Int) (w : World) (h : Lib.IsBuilder 86 5 B b bs w) (hlen : bs.length ≤ 100000000) (hBw : B ≤ w.heap.size) :
   Calls Tryz.prog 58 #[.pointer (some ⟨b, 0, none⟩), .int .u8 c] w fun e w' => e = .returned .nilIface ∧ Lib.IsBuilder 86 5 B b (bs ++ [.int .u8 c]) w' ∧ Below B w w' := by
 obtain ⟨i0, hi0, hz0, hzs1, hz2⟩ := info_parts info_u8J
 go_enter Tryz.func58, Tryz.ntmps58
 go_wp2_with fail
 refine (copy_anyJ B b bs _ h).mono ?_
 rintro e w1 ⟨rfl, ⟨hB, v, hbk, hown, hne⟩, hb1⟩
 have c1 : w1.cell? ⟨b, 1, none⟩ = some v := by rw [Lib.cell_of_heap hbk]; rfl
 have hz1 := hb1.size
 go_wp2_with (at_builtin; refine wpList_append_own _ rfl _ _ 22 rfl B 5 i0 (.int .u8 0) 1 1 Tryz.underlying22 hi0 hz0 hzs1 hz2 rfl zd _ _ _ rfl (hown.alloc _) ⟨w1.heap.size, 0, none⟩ 1 1 [.int .u8 c] rfl rfl (cell_one_new _ _ _) (by simp [Value.oneCell']) (by unfold maxLen; omega) zO (by simp; omega) ?_)
 intro v' w2 hown' hgrow _
 have hlt : b < w1.heap.size := (Array.getElem?_eq_some_iff.1 hbk).1
 have hb2 : w2.heap[b]? = some (.cells #[.pointer (some ⟨b, 0, none⟩), v] 86 (0, 0)) := by
   rw [hgrow.block b (by simp; omega) (fun e => hne e.symm), Below.heap_alloc _ _ _ hlt]
   exact hbk
 have d1 : w2.cell? ⟨b, 1, none⟩ = some v := by rw [Lib.cell_of_heap hb2]; rfl
 have f1 : w2.frozen? ⟨b, 1, none⟩ = false := Lib.frozen_of_heap hb2 1
 obtain ⟨g, cap, rfl⟩ := ownsRow_succ hown'
 have hlk := hown.lt
 go_wp2
 go_ret
 refine ⟨rfl, .inr (Lib.BuilderAt.put hB hb2 (bs' := bs ++ [.int .u8 c]) (by simpa using hown') zd), ?_⟩
 exact ((hb1.alloc zO _).grown hgrow (by simp; omega) (fun k hk => (hlk k hk).1)).setCell (p := ⟨b, 1, none⟩) hB _
set_option maxHeartbeats 2000000 in
set_option maxRecDepth 100000 in
theorem writeStringJ_any (B b : Nat) (bs : List Value) (s : ByteArray) (w : World) (h : Lib.IsBuilder 86 5 B b bs w) (hlen : bs.length + s.size ≤ 100000000) (hBw : B ≤ w.heap.size) :
   Calls Tryz.prog 57 #[.pointer (some ⟨b, 0, none⟩), .string s] w fun e w' => e = .returned (.tuple #[.int .i64 s.size, .nilIface]) ∧ Lib.IsBuilder 86 5 B b (bs ++ Lib.strCells s) w' ∧ Below B w w' := by
 obtain ⟨i0, hi0, hz0, hzs1, hz2⟩ := info_parts info_u8J
 go_enter Tryz.func57, Tryz.ntmps57
 go_wp2_with fail
 refine (copy_anyJ B b bs _ h).mono ?_
 rintro e w1 ⟨rfl, ⟨hB, v, hbk, hown, hne⟩, hb1⟩
 have c0 : w1.cell? ⟨b, 0, none⟩ = some (.pointer (some ⟨b, 0, none⟩)) := by rw [Lib.cell_of_heap hbk]; rfl
 have c1 : w1.cell? ⟨b, 1, none⟩ = some v := by rw [Lib.cell_of_heap hbk]; rfl
 have hz1 := hb1.size
 go_wp2_with (at_builtin; refine Lib.wpList_append_own_string _ rfl _ _ 22 9 rfl B 5 i0 Tryz.underlying22 Tryz.underlying9 hi0 hz0 hzs1 hz2 _ _ _ rfl hown s rfl (by unfold maxLen; omega) zO zO ?_)
 intro v' w2 hown' hgrow _
 have hlt : b < w1.heap.size := (Array.getElem?_eq_some_iff.1 hbk).1
 have hb2 : w2.heap[b]? = some (.cells #[.pointer (some ⟨b, 0, none⟩), v] 86 (0, 0)) := by
   rw [hgrow.block b hlt (fun e => hne e.symm)]
   exact hbk
 have d0 : w2.cell? ⟨b, 0, none⟩ = some (.pointer (some ⟨b, 0, none⟩)) := by rw [Lib.cell_of_heap hb2]; rfl
 have d1 : w2.cell? ⟨b, 1, none⟩ = some v := by rw [Lib.cell_of_heap hb2]; rfl
 have f1 : w2.frozen? ⟨b, 1, none⟩ = false := Lib.frozen_of_heap hb2 1
 obtain ⟨ao, n', cap, rfl⟩ : ∃ ao n' cap, v' = .slice ao n' cap := by
   rcases hown'.2 with ⟨hv, _⟩ | ⟨g, cap, cur, hv, _⟩
   · exact ⟨_, _, _, hv⟩
   · exact ⟨_, _, _, hv⟩
 have hlk := hown.lt
 go_wp2
 go_ret2
 refine ⟨rfl, .inr (Lib.BuilderAt.put hB hb2 (bs' := bs ++ Lib.strCells s) (by simpa [Lib.strCells_length] using hown') zd), ?_⟩
 exact (hb1.grown hgrow zO (fun k hk => (hlk k hk).1)).setCell (p := ⟨b, 1, none⟩) hB _
end
section
open Go.RowKit Go.Shelf
theorem builder_below {B b : Nat} {bs : List Value} {w w' : World} (h : Lib.IsBuilder 86 5 B b bs w) (hb : Below w.heap.size w w') : Lib.IsBuilder 86 5 B b bs w' := by
 have one : ∀ p, Lib.BuilderAt 86 5 B b p bs w → Lib.BuilderAt 86 5 B b p bs w' := fun p h => by
   have hlt := h.lt
   obtain ⟨hB, v, hbk, hown, hne⟩ := h
   exact ⟨hB, v, (hb.block b hlt).trans hbk, own_keeps hown hb, hne⟩
 rcases h with h | h
 · exact .inl (one _ h)
 · exact .inr (one _ h)
theorem byteCells_txt (s : ByteArray) : Lib.strCells s = Lib.byteCells s.data.toList := rfl
theorem builder_next {O t : List UInt8} : Lib.byteCells O ++ Lib.byteCells t = Lib.byteCells (O ++ t) := by simp [Lib.byteCells]
set_option maxRecDepth 100000 in
set_option maxHeartbeats 4000000 in
theorem implJournal_any (B C : Nat) (L : List DeedN) (v : Value) (w : World) (h : IsDeeds B C w v L) (hn : L.length ≤ 1048600) (ht : PowTab w) : Calls Tryz.prog 17 #[v] w fun e w' => e = .returned (.string (txt (journV L))) ∧ Below w.heap.size w w' := by
 obtain ⟨a, cap, rfl, hC, hs⟩ := h
 have HT := Lib.hid ht
 clear ht
 go_enter Tryz.func17, Tryz.ntmps17
 go_wp2_with fail
 go_loopw [9] (fun x9 wr => ∃ (i : Nat) (O : List UInt8), i ≤ L.length ∧ x9 = .int .i64 i ∧ O = journalN (L.take i) ∧ Lib.IsBuilder 86 5 w.heap.size w.heap.size (Lib.byteCells O) wr ∧ notedN (L.take i) = true ∧ w.heap.size < wr.heap.size ∧ Below w.heap.size w wr) (fun x9 _ => L.length - (intOf x9).toNat)
 case atStart => exact ⟨0, [], Nat.zero_le _, rfl, rfl, Lib.fresh_isBuilder _ _ _, rfl, by simp, (Below.refl _ _).alloc (Nat.le_refl _) _⟩
 case round =>
   obtain ⟨i, O, hi, rfl, hO, hbd, hno, hwz, hB⟩ := hrel
   have HBD := Lib.hid hbd
   by_cases hlt : i < L.length
   · rcases hs with rfl | ⟨g, off, rfl, h1, h2, hc, hf⟩
     · simp at hlt
     have HC := Lib.hid hc
     obtain ⟨x, y, z, hp⟩ := deed_at_i hlt
     have hg := h2.1
     have k0 : wr.cell? ⟨g, off + i * 3, none⟩ = some (.int .i64 x) := (hB.cell (p := ⟨g, off + i * 3, none⟩) (by show g < _; omega)).trans (HC.out i _ hp).1
     have k1 : wr.cell? ⟨g, off + i * 3 + 1, none⟩ = some (.int .i64 y) := (hB.cell (p := ⟨g, off + i * 3 + 1, none⟩) (by show g < _; omega)).trans (HC.out i _ hp).2.1
     have k2 : wr.cell? ⟨g, off + i * 3 + 2, none⟩ = some (.int .i64 z) := (hB.cell (p := ⟨g, off + i * 3 + 2, none⟩) (by show g < _; omega)).trans (HC.out i _ hp).2.2
     have hil : (i : Int) < (L.length : Int) := by omega
     have hi0 : (0 : Int) ≤ (i : Int) := by omega
     have Wi : IntKind.i64.wrap ((i : Int) + 1) = (i : Int) + 1 := by rw [IntKind.wrap_i64]; omega
     have HP := Lib.hid hp
     have HB := Lib.hid hB
     have HNO := Lib.hid hno
     have hOl : O.length ≤ 13 * i := by
       have := journalN_len (L.take i)
       rw [← hO, List.length_take] at this
       omega
     have HO := Lib.hid hO
     have hdt := fun W hW => implText_any x y z W hW
     have hem : (txt (deedT ⟨x, y, z⟩)).toList.isEmpty = (deedT ⟨x, y, z⟩).isEmpty := by rw [bl_toList]; rfl
     have hln := deedT_lenJ ⟨x, y, z⟩
     obtain ⟨t, ht⟩ : ∃ t, txt (deedT ⟨x, y, z⟩) = t := ⟨_, rfl⟩
     have hts : t.size ≤ 12 := by rw [← ht, txt_size]; exact hln
     have HTL := Lib.hid (show t.data.toList = deedT ⟨x, y, z⟩ by rw [← ht]; rfl)
     rw [ht] at hdt hem
     have HDT := Lib.hid hdt
     have hz0 := hB.size
     clear hc hf hp hB hO hno hdt ht hln h2 hbd
     go_wp2_with fail
     refine (HDT.out _ (HT.out.below (HB.out.alloc hz0 _) (Nat.le_refl _))).mono ?_
     rintro e w1 ⟨rfl, hb1⟩
     have hz1 := hb1.size
     simp at hz1
     have hB1 : Below wr.heap.size wr w1 := ((Below.refl _ _).alloc (Nat.le_refl _) _).trans (hb1.mono (by simp))
     have HB1 := Lib.hid (HB.out.trans (hB1.mono hz0))
     have HBD1 := Lib.hid (builder_below HBD.out hB1)
     clear hb1 hB1 k0 k1 k2
     by_cases hd : deedT ⟨x, y, z⟩ = []
     · have hemp : t.toList.isEmpty = true := by rw [hem, hd]; rfl
       have HN := Lib.hid (noted_not HP.out hd)
       clear hem hd
       go_wp2
       go_ret
       exact ⟨by rw [HN.out]; rfl, HB1.out⟩
     · have hemp : t.toList.isEmpty = false := by
         rw [hem]
         cases hcc : deedT ⟨x, y, z⟩ with
         | nil => exact absurd hcc hd
         | cons _ _ => rfl
       have HNX := Lib.hid (noted_next HP.out HNO.out hd)
       clear hem hd
       go_wp2_with fail
       refine (writeStringJ_any w.heap.size w.heap.size _ t _ HBD1.out (by simp [Lib.byteCells]; omega) zO).mono ?_
       rintro e w2 ⟨rfl, hbd2, hb2⟩
       have HB2 := Lib.hid (HB1.out.trans hb2)
       have hz2 := hb2.size
       rw [byteCells_txt, HTL.out, builder_next] at hbd2
       have HBD2 := Lib.hid hbd2
       have hdl := deedT_lenJ ⟨x, y, z⟩
       clear hb2 hbd2
       go_wp2_with fail
       refine (writeByte_anyJ w.heap.size w.heap.size _ 10 _ HBD2.out (by simp [Lib.byteCells]; omega) zO).mono ?_
       rintro e w3 ⟨rfl, hbd3, hb3⟩
       have HB3 := Lib.hid (HB2.out.trans hb3)
       have hz3 := hb3.size
       have HBD3 := Lib.hid (show Lib.IsBuilder 86 5 w.heap.size w.heap.size (Lib.byteCells (O ++ deedT ⟨x, y, z⟩ ++ [10])) w3 by
         rw [← builder_next (t := [10])]; exact hbd3)
       clear hb3 hbd3 hdl
       go_wp2
       go_roundw
       case rel =>
         exact ⟨i + 1, O ++ deedT ⟨x, y, z⟩ ++ [10], by omega, congrArg (Value.int .i64) zO, by rw [journalN_next HP.out, HO.out], HBD3.out, HNX.out, by omega, HB3.out⟩
       case measure => simp [intOf]; omega
   · obtain rfl : i = L.length := by omega
     rw [List.take_length] at hO hno
     have HE := Lib.hid (show txt O = txt (journV L) by rw [hO, journV_yes hno])
     clear hO hno hs hbd
     go_wp2_with fail
     refine (Tryz.Builder_String_any w.heap.size w.heap.size O _ HBD.out zO).mono ?_
     rintro e w1 ⟨rfl, hb1⟩
     go_wp2
     go_ret
     exact ⟨by rw [← HE.out]; rfl, hB.trans hb1⟩
end
section
open Go.RowKit
theorem below_drewsH {B : Nat} {a w : World} (h : Below B a w) (n : Nat) : Below B a (w.drewN n) := ⟨h.os, h.tape, h.output, h.size, h.block⟩
set_option maxHeartbeats 4000000 in
theorem sameDeeds_same (B C B' C' : Nat) (v u : Value) (L : List DeedN) (w : World) (h : IsDeeds B C w v L) (k : IsDeeds B' C' w u L) (hn : L.length ≤ 1048600) :
   Calls Tryz.prog 11 #[v, u] w fun e w' => e = .returned (.bool true) ∧ Below w.heap.size w w' := by
 obtain ⟨a, ca, rfl, hC, hs⟩ := h
 obtain ⟨b, cb, rfl, hC', ks⟩ := k
 go_enter Tryz.func11, Tryz.ntmps11
 go_wp2_with fail
 go_loopw [5] (fun k wr => ∃ i : Nat, i ≤ L.length ∧ k = .int .i64 i ∧ Below w.heap.size w wr) (fun k _ => L.length - (intOf k).toNat)
 case atStart => exact ⟨0, Nat.zero_le _, rfl, Below.refl _ _⟩
 case round =>
   obtain ⟨i, hi, rfl, hB⟩ := hrel
   by_cases hlt : i < L.length
   · rcases hs with rfl | ⟨g, off, rfl, h1, h2, hc, hf⟩
     · simp at hlt
     rcases ks with rfl | ⟨g', off', rfl, h1', h2', hc', hf'⟩
     · simp at hlt
     obtain ⟨x, y, z, hp⟩ := deed_at hlt
     have c1 : wr.cell? ⟨g, off + i * 3, none⟩ = some (.int .i64 x) := (hB.cell (p := ⟨g, off + i * 3, none⟩) (by show g < _; omega)).trans (hc i _ hp).1
     have c2 : wr.cell? ⟨g, off + i * 3 + 1, none⟩ = some (.int .i64 y) := (hB.cell (p := ⟨g, off + i * 3 + 1, none⟩) (by show g < _; omega)).trans (hc i _ hp).2.1
     have c3 : wr.cell? ⟨g, off + i * 3 + 2, none⟩ = some (.int .i64 z) := (hB.cell (p := ⟨g, off + i * 3 + 2, none⟩) (by show g < _; omega)).trans (hc i _ hp).2.2
     have c4 : wr.cell? ⟨g', off' + i * 3, none⟩ = some (.int .i64 x) := (hB.cell (p := ⟨g', off' + i * 3, none⟩) (by show g' < _; omega)).trans (hc' i _ hp).1
     have c5 : wr.cell? ⟨g', off' + i * 3 + 1, none⟩ = some (.int .i64 y) := (hB.cell (p := ⟨g', off' + i * 3 + 1, none⟩) (by show g' < _; omega)).trans (hc' i _ hp).2.1
     have c6 : wr.cell? ⟨g', off' + i * 3 + 2, none⟩ = some (.int .i64 z) := (hB.cell (p := ⟨g', off' + i * 3 + 2, none⟩) (by show g' < _; omega)).trans (hc' i _ hp).2.2
     have hii : (i : Int) < (L.length : Int) := by omega
     have i0 : (0 : Int) ≤ (i : Int) := by omega
     clear hc hc' hf hf' hp
     go_wp2
     go_quiet (fail)
     go_wp2
     go_roundw
     case rel => exact ⟨i + 1, by omega, congrArg (Value.int .i64) zO, below_drewsH hB _⟩
     case measure => simp [intOf]; omega
   · obtain rfl : i = L.length := by omega
     clear hs ks
     go_wp2
     go_ret
     exact ⟨rfl, hB⟩
end
section
open Go.RowKit Go.Shelf
theorem journ_cut {t : ByteArray} {X : List DeedN} {n : Nat} (h : readJ [] t.data.toList = (X, n)) : txt (journV X) = t.extract 0 n := by
 have hn : ∀ x ∈ X, deedT x ≠ [] := by have := readJ_noted [] t.data.toList; rwa [h] at this
 have hj : journalN X = t.data.toList.take n := by have := readJ_text [] t.data.toList; rw [h] at this; simpa using this
 rw [journV_yes (by unfold notedN; rw [List.all_eq_true]; intro x hx; simpa using hn x hx), hj, extract_txt]
 simp
theorem journ_prefix {l : List UInt8} {X Y : List DeedN} {n m k : Nat} (h : readJ [] l = (X, n)) (hy : readJ [] (l.take k) = (Y, m)) : Y = X.take Y.length ∧ Y.length ≤ X.length ∧ m ≤ k := by
 have h1 := (readJ_prefix [] l k).1
 have h2 := readJ_le [] (l.take k)
 rw [hy] at h1 h2
 rw [h] at h1
 refine ⟨List.prefix_iff_eq_take.1 h1, h1.length_le, ?_⟩
 simp only [List.length_nil, List.length_take] at h2
 omega
theorem text_cut (t : ByteArray) (k : Nat) : (t.extract 0 k).data.toList = t.data.toList.take k := by
 rw [extract_txt]
 show (t.data.toList.drop 0).take (k - 0) = _
 simp
theorem readJ_many (s : List UInt8) : ∀ line, (readJ line s).1.length ≤ (readJ line s).2 := by
 induction s with
 | nil => intro line; simp [readJ]
 | cons c cs ih =>
   intro line
   unfold readJ
   split
   · cases h : readN line with
     | none => simp
     | some x => have := ih []; simp only [List.length_cons]; omega
   · exact ih _
set_option linter.unusedSimpArgs false in
set_option maxRecDepth 100000 in
set_option maxHeartbeats 16000000 in
theorem fnReadJournal_walk (a : Option Addr) (len cap : Nat) (z : List Int) (a' : Option Addr) (len' cap' : Nat) (z' : List Int) (w : World) (w0 : IsRow w a len cap z) (w0' : IsRow w a' len' cap' z') (ht : PowTab w) (he : Errs w) :
   Calls Tryz.prog 3 #[.slice a len cap, .slice a' len' cap'] w fun e w' => e = .returned (.bool true) ∧ Below w.heap.size w w' := by
 by_cases hbig : 1048576 < len
 · have hbi : (1048576 : Int) < (len : Int) := by omega
   go_enter Tryz.func3, Tryz.ntmps3
   go_wp2
   go_ret
   exact ⟨rfl, Below.refl _ _⟩
 have hsm : len ≤ 1048576 := by omega
 have hbi : ¬ (1048576 : Int) < (len : Int) := by omega
 by_cases hbig' : 1048576 < len'
 · have hbi' : (1048576 : Int) < (len' : Int) := by omega
   go_enter Tryz.func3, Tryz.ntmps3
   go_wp2
   go_ret
   exact ⟨rfl, Below.refl _ _⟩
 · have hsm' : len' ≤ 1048576 := by omega
   have hbi' : ¬ (1048576 : Int) < (len' : Int) := by omega
   go_enter Tryz.func3, Tryz.ntmps3
   go_wp2_with fail
   refine (drawReadJ_any _ _ _ _ z w0).mono ?_
   rintro e w1 ⟨t, rfl, hts, hh1⟩
   have hz1 := hh1.size
   have hJ := fun W hT hE => implReadJ_any t W zO hT hE
   have hS := fun W => specReadJ_any t W zO
   unfold JournS at hJ hS
   obtain ⟨X, n, hres⟩ : ∃ X n, readJ [] t.data.toList = (X, n) := ⟨_, _, rfl⟩
   have hnt : n ≤ t.size := by have := readJ_le [] t.data.toList; rw [hres] at this; have hb := bl_size t; simp only [List.length_nil] at this; omega
   have hXl : X.length ≤ n := by have := readJ_many t.data.toList []; rwa [hres] at this
   have hXn : X.length ≤ 1048600 := by omega
   have hno : ∀ x ∈ X, deedT x ≠ [] := by have := readJ_noted [] t.data.toList; rwa [hres] at this
   have hJT := fun (W : World) B C (v : Value) (hI : IsDeeds B C W v X) hT => implJournal_any B C X v W hI hXn hT
   rw [hres] at hJ hS
   rw [journ_cut hres] at hJT
   dsimp only at hJ hS
   have HJ := Lib.hid hJ
   have HS := Lib.hid hS
   have HRES := Lib.hid hres
   have HNO := Lib.hid hno
   clear hJ hS hres hno
   have HB1 := Lib.hid hh1
   have HR1_tab := Lib.hid (ht.below hh1 (Nat.le_refl _))
   have HR1_err := Lib.hid (he.below hh1 (Nat.le_refl _))
   have HW2 := Lib.hid w0'
   clear hh1 ht he w0 w0'
   go_wp2_with fail
   refine (HJ.out _ HR1_tab.out HR1_err.out).mono ?_
   rintro e w2 ⟨la, lc, rfl, hI2, hb2⟩
   obtain ⟨hc2, hf2⟩ := bcell hb2
   have hz2 := hb2.size
   try simp at hz2
   have hN2 : Below w1.heap.size w1 w2 := by
     refine Below.trans ?_ (hb2.mono zo)
     exact zb
   have hn2 := hN2.size
   have HB2 := Lib.hid (HB1.out.trans (hN2.mono zl))
   have HR2_tab := Lib.hid (HR1_tab.out.below hN2 zl)
   have HR2_err := Lib.hid (HR1_err.out.below hN2 zl)
   clear hc2 hf2 hb2 hN2 hz2
   obtain ⟨PL, QL, hL⟩ : ∃ B C, IsDeeds B C w2 (.slice la X.length lc) X := ⟨_, _, hI2⟩
   have hQL : QL ≤ w2.heap.size := by obtain ⟨_, _, _, h, _⟩ := id hL; exact h
   have hlcap := (deeds_take hL X.length (Nat.le_refl _)).1
   have HR2_l := Lib.hid (hL)
   clear hI2 hL
   go_wp2_with fail
   refine (HS.out _).mono ?_
   rintro e w3 ⟨sa, sc, rfl, hI3, hb3⟩
   obtain ⟨hc3, hf3⟩ := bcell hb3
   have hz3 := hb3.size
   try simp at hz3
   have hN3 : Below w2.heap.size w2 w3 := by
     refine Below.trans ?_ (hb3.mono zo)
     exact zb
   have hn3 := hN3.size
   have HB3 := Lib.hid (HB2.out.trans (hN3.mono zl))
   have HR3_tab := Lib.hid (HR2_tab.out.below hN3 zl)
   have HR3_err := Lib.hid (HR2_err.out.below hN3 zl)
   have HR3_l := Lib.hid (HR2_l.out.below hN3 zl)
   clear hc3 hf3 hb3 hN3 hz3
   have HR3_s := Lib.hid (hI3)
   clear hI3
   go_wp2_with fail
   refine (sameDeeds_same _ _ _ _ _ _ X _ HR3_l.out HR3_s.out hXn).mono ?_
   rintro e w4 ⟨rfl, hb4⟩
   obtain ⟨hc4, hf4⟩ := bcell hb4
   have hz4 := hb4.size
   try simp at hz4
   have hN4 : Below w3.heap.size w3 w4 := by
     refine Below.trans ?_ (hb4.mono zo)
     exact zb
   have hn4 := hN4.size
   have HB4 := Lib.hid (HB3.out.trans (hN4.mono zl))
   have HR4_tab := Lib.hid (HR3_tab.out.below hN4 zl)
   have HR4_err := Lib.hid (HR3_err.out.below hN4 zl)
   have HR4_l := Lib.hid (HR3_l.out.below hN4 zl)
   have HR4_s := Lib.hid (HR3_s.out.below hN4 zl)
   clear hc4 hf4 hb4 hN4 hz4
   go_wp2_with fail
   go_loopw [10] (fun x wr => ∃ k : Nat, k ≤ t.size + 1 ∧ x = .int .i64 k ∧ Below w4.heap.size w4 wr) (fun x _ => t.size + 1 - (intOf x).toNat)
   case atStart => exact ⟨0, Nat.zero_le _, rfl, Below.refl _ _⟩
   case round =>
     obtain ⟨k, hk, rfl, hBr⟩ := hrel
     have hzr := hBr.size
     have HRr_tab := Lib.hid (HR4_tab.out.below hBr zl)
     have HRr_err := Lib.hid (HR4_err.out.below hBr zl)
     have HRr_l := Lib.hid (HR4_l.out.below hBr zl)
     have HBr := Lib.hid hBr
     by_cases hlt : k ≤ t.size
     · have hki : (k : Int) ≤ (t.size : Int) := by omega
       have hk0 : (0 : Int) ≤ (k : Int) := by omega
       obtain ⟨Y, m, hy⟩ : ∃ Y m, readJ [] (t.data.toList.take k) = (Y, m) := ⟨_, _, rfl⟩
       obtain ⟨hYX, hYl, hmk⟩ := journ_prefix HRES.out hy
       have hYn : Y.length ≤ 1048600 := by omega
       have hJk := fun W hT hE => implReadJ_any (t.extract 0 k) W (by have := extract_small t 0 k; omega) hT hE
       unfold JournS at hJk
       rw [text_cut, hy] at hJk
       dsimp only at hJk
       have HJk := Lib.hid hJk
       have HYX := Lib.hid hYX
       have hg1 : ¬ ((X.length : Int) < (Y.length : Int)) := by omega
       have hmin : min (Y.length : Int) (X.length : Int) = (Y.length : Int) := by omega
       have hmki : ¬ ((k : Int) < (m : Int)) := by omega
       have hY0i : (0 : Int) ≤ (Y.length : Int) := by omega
       have hYXi : (Y.length : Int) ≤ (X.length : Int) := by omega
       have W1 : IntKind.i64.wrap ((k : Int) + 1) = (k : Int) + 1 := by rw [IntKind.wrap_i64]; omega
       clear hJk hYX hy hBr hJT
       rcases (show lc = 0 ∨ ¬ lc = 0 by omega) with rfl | hlc0
       · skip
         obtain rfl : Y = [] := List.length_eq_zero_iff.1 zO
         have HX0 := Lib.hid (show X.length = 0 by omega)
         clear hg1 hmin hY0i hYXi hYl hYn
         have hg1 : ¬ ((X.length : Int) < 0) := by omega
         have hmin : min (0 : Int) (X.length : Int) = 0 := by omega
         have hX0i : (0 : Int) ≤ (X.length : Int) := by omega
         go_wp2_with fail
         refine (HJk.out _ HRr_tab.out HRr_err.out).mono ?_
         rintro e w11 ⟨ya, yc, rfl, hI11, hb11⟩
         obtain ⟨hc11, hf11⟩ := bcell hb11
         have hz11 := hb11.size
         try simp at hz11
         have hN11 : Below wr.heap.size wr w11 := by
           refine Below.trans ?_ (hb11.mono zo)
           exact zb
         have hn11 := hN11.size
         have HB11 := Lib.hid (HBr.out.trans (hN11.mono zl))
         have HR11_tab := Lib.hid (HRr_tab.out.below hN11 zl)
         have HR11_err := Lib.hid (HRr_err.out.below hN11 zl)
         have HR11_l := Lib.hid (HRr_l.out.below hN11 zl)
         clear hc11 hf11 hb11 hN11 hz11
         have HR11_y := Lib.hid (hI11)
         clear hI11
         go_wp2_with fail
         refine (sameDeeds_same _ _ _ _ _ _ [] _ HR11_y.out (deeds_none _ _ _ _ rfl rfl) (by simp)).mono ?_
         rintro e w12 ⟨rfl, hb12⟩
         obtain ⟨hc12, hf12⟩ := bcell hb12
         have hz12 := hb12.size
         try simp at hz12
         have hN12 : Below w11.heap.size w11 w12 := by
           refine Below.trans ?_ (hb12.mono zo)
           exact zb
         have hn12 := hN12.size
         have HB12 := Lib.hid (HB11.out.trans (hN12.mono zl))
         have HR12_tab := Lib.hid (HR11_tab.out.below hN12 zl)
         have HR12_err := Lib.hid (HR11_err.out.below hN12 zl)
         have HR12_l := Lib.hid (HR11_l.out.below hN12 zl)
         have HR12_y := Lib.hid (HR11_y.out.below hN12 zl)
         clear hc12 hf12 hb12 hN12 hz12
         go_wp2
         go_roundw
         case rel => exact ⟨k + 1, by omega, congrArg (Value.int .i64) zO, HB12.out⟩
         case measure => simp [intOf]; omega
       · skip
         go_wp2_with fail
         refine (HJk.out _ HRr_tab.out HRr_err.out).mono ?_
         rintro e w11 ⟨ya, yc, rfl, hI11, hb11⟩
         obtain ⟨hc11, hf11⟩ := bcell hb11
         have hz11 := hb11.size
         try simp at hz11
         have hN11 : Below wr.heap.size wr w11 := by
           refine Below.trans ?_ (hb11.mono zo)
           exact zb
         have hn11 := hN11.size
         have HB11 := Lib.hid (HBr.out.trans (hN11.mono zl))
         have HR11_tab := Lib.hid (HRr_tab.out.below hN11 zl)
         have HR11_err := Lib.hid (HRr_err.out.below hN11 zl)
         have HR11_l := Lib.hid (HRr_l.out.below hN11 zl)
         clear hc11 hf11 hb11 hN11 hz11
         have HR11_y := Lib.hid (hI11)
         clear hI11
         have hkc : Y.length ≤ lc := by omega
         have hT := HR11_l.out.take Y.length lc hYl hkc
         rw [← HYX.out] at hT
         have HR11_yt := Lib.hid (hT)
         clear hT
         have hd0' : ¬ 0 = lc := by omega
         have hk3 : (Y.length : Int) ≤ (lc : Int) := by omega
         go_wp2_with fail
         refine (sameDeeds_same _ _ _ _ _ _ Y _ HR11_y.out HR11_yt.out hYn).mono ?_
         rintro e w12 ⟨rfl, hb12⟩
         obtain ⟨hc12, hf12⟩ := bcell hb12
         have hz12 := hb12.size
         try simp at hz12
         have hN12 : Below w11.heap.size w11 w12 := by
           refine Below.trans ?_ (hb12.mono zo)
           exact zb
         have hn12 := hN12.size
         have HB12 := Lib.hid (HB11.out.trans (hN12.mono zl))
         have HR12_tab := Lib.hid (HR11_tab.out.below hN12 zl)
         have HR12_err := Lib.hid (HR11_err.out.below hN12 zl)
         have HR12_l := Lib.hid (HR11_l.out.below hN12 zl)
         have HR12_y := Lib.hid (HR11_y.out.below hN12 zl)
         have HR12_yt := Lib.hid (HR11_yt.out.below hN12 zl)
         clear hc12 hf12 hb12 hN12 hz12
         go_wp2
         go_roundw
         case rel => exact ⟨k + 1, by omega, congrArg (Value.int .i64) zO, HB12.out⟩
         case measure => simp [intOf]; omega
     · obtain rfl : k = t.size + 1 := by omega
       have hki : ¬ (((t.size + 1 : Nat) : Int) ≤ (t.size : Int)) := by omega
       have HBq := Lib.hid (HB4.out.trans (hBr.mono zO))
       have HJT := Lib.hid hJT
       clear hBr hJT HBr hlt
       go_wp2_with fail
       refine (drawDeskRun_any _ _ _ _ z' (HW2.out.below HBq.out)).mono ?_
       rintro e w21 ⟨p, q, a2, c2, L, b3, d3, X3, rfl, hI, hL6, hD3, hX3, hb21⟩
       obtain ⟨hc21, hf21⟩ := bcell hb21
       have hz21 := hb21.size
       try simp at hz21
       have hN21 : Below wr.heap.size wr w21 := by
         refine Below.trans ?_ (hb21.mono zo)
         exact zb
       have hn21 := hN21.size
       have HB21 := Lib.hid (HBq.out.trans (hN21.mono zl))
       have HR21_tab := Lib.hid (HRr_tab.out.below hN21 zl)
       have HR21_err := Lib.hid (HRr_err.out.below hN21 zl)
       have HR21_l := Lib.hid (HRr_l.out.below hN21 zl)
       clear hc21 hf21 hb21 hN21 hz21
       obtain ⟨Pd, Qd, hP⟩ : ∃ B C, IsPairs B C w21 (.slice a2 L.length c2) L := ⟨_, _, hI⟩
       have hQd : Qd ≤ w21.heap.size := by obtain ⟨_, _, _, h, _⟩ := id hP; exact h
       clear hD3 hX3 hI
       have HR21_p := Lib.hid (hP)
       clear hP
       have hn6 : L.length ≤ 1048600 := by omega
       have hnt1 : decide ((n : Int) ≤ (t.size : Int)) = true := by simp; omega
       have hnt2 : (n : Int) ≤ (t.size : Int) := by omega
       have hn0 : (0 : Int) ≤ (n : Int) := by omega
       have hcmp : ((t.extract 0 n).toList == (t.extract 0 n).toList) = true := by simp
       obtain ⟨dk, hdk⟩ : ∃ b, deskN ⟨(p, q), L⟩ = b := ⟨_, rfl⟩
       cases dk with
       | false =>
         have HD := Lib.hid hdk
         have hzr : runR ⟨(p, q), L⟩ X = (⟨(0, 0), []⟩, 0) := runR_no (fun e => by rw [hdk] at e; exact absurd e.1 zd)
         have hRUN := fun (W : World) (B C B' C' : Nat) (a : Option Addr) (c : Nat) (u : Value) (hI : IsPairs B C W (.slice a L.length c) L) (hD : IsDeeds B' C' W u X) => implRun_any B C B' C' p q L X _ u W hI hn6 hD hXn
         unfold RanS at hRUN
         rw [hzr] at hRUN
         dsimp only [List.length_nil] at hRUN
         have HRUN := Lib.hid hRUN
         clear hRUN
         clear hzr hdk
         go_wp2_with fail
         go_loopw [16] (fun x wv => x = .int .i64 0 ∧ Below (w21.heap.size + 2) ((w21.alloc (.cells #[.int .i64 p, .int .i64 q, .slice a2 L.length c2] 32)).alloc (.cells #[.int .i64 p, .int .i64 q, .slice a2 L.length c2] 32)) wv) (fun _ _ => 0)
         case atStart => exact ⟨rfl, Below.refl _ _⟩
         case round =>
           rename World => wv
           obtain ⟨rfl, hBw⟩ := hrel
           have hzw := hBw.size
           simp at hzw
           have hdv : w21.heap.size < wv.heap.size := by omega
           have hzn : w21.heap.size + 1 < wv.heap.size := by omega
           have hBv : Below (w21.heap.size + 1) (w21.alloc (.cells #[.int .i64 p, .int .i64 q, .slice a2 L.length c2] 32)) wv := ((Below.refl _ _).alloc (by simp) (.cells #[.int .i64 p, .int .i64 q, .slice a2 L.length c2] 32)).trans (hBw.mono zO)
           have kn0 : wv.cell? ⟨w21.heap.size + 1, 0, none⟩ = some (.int .i64 p) := (hBw.cell (p := ⟨w21.heap.size + 1, 0, none⟩) (by show w21.heap.size + 1 < _; omega)).trans (by go_simp)
           have kn1 : wv.cell? ⟨w21.heap.size + 1, 1, none⟩ = some (.int .i64 q) := (hBw.cell (p := ⟨w21.heap.size + 1, 1, none⟩) (by show w21.heap.size + 1 < _; omega)).trans (by go_simp)
           have kn2 : wv.cell? ⟨w21.heap.size + 1, 2, none⟩ = some (.slice a2 L.length c2) := (hBw.cell (p := ⟨w21.heap.size + 1, 2, none⟩) (by show w21.heap.size + 1 < _; omega)).trans (by go_simp)
           have kd0 : wv.cell? ⟨w21.heap.size, 0, none⟩ = some (.int .i64 p) := (hBv.cell (p := ⟨w21.heap.size, 0, none⟩) (by show w21.heap.size < _; first | omega | (simp <;> omega))).trans (by go_simp)
           have kd1 : wv.cell? ⟨w21.heap.size, 1, none⟩ = some (.int .i64 q) := (hBv.cell (p := ⟨w21.heap.size, 1, none⟩) (by show w21.heap.size < _; first | omega | (simp <;> omega))).trans (by go_simp)
           have kd2 : wv.cell? ⟨w21.heap.size, 2, none⟩ = some (.slice a2 L.length c2) := (hBv.cell (p := ⟨w21.heap.size, 2, none⟩) (by show w21.heap.size < _; first | omega | (simp <;> omega))).trans (by go_simp)
           have HRv_tab := Lib.hid ((HR21_tab.out.below ((Below.refl w21.heap.size w21).alloc (Nat.le_refl _) (.cells #[.int .i64 p, .int .i64 q, .slice a2 L.length c2] 32)) zl).below hBv zo)
           have HRv_err := Lib.hid ((HR21_err.out.below ((Below.refl w21.heap.size w21).alloc (Nat.le_refl _) (.cells #[.int .i64 p, .int .i64 q, .slice a2 L.length c2] 32)) zl).below hBv zo)
           have HRv_l := Lib.hid ((HR21_l.out.below ((Below.refl w21.heap.size w21).alloc (Nat.le_refl _) (.cells #[.int .i64 p, .int .i64 q, .slice a2 L.length c2] 32)) zl).below hBv zo)
           have HRv_p := Lib.hid ((HR21_p.out.below ((Below.refl w21.heap.size w21).alloc (Nat.le_refl _) (.cells #[.int .i64 p, .int .i64 q, .slice a2 L.length c2] 32)) zl).below hBv zo)
           have HBv := Lib.hid (HB21.out.trans (((Below.refl w21.heap.size w21).alloc (Nat.le_refl _) (.cells #[.int .i64 p, .int .i64 q, .slice a2 L.length c2] 32)).mono zO |>.trans (hBv.mono zO)))
           clear hBw hBv
           by_cases hX0 : X.length = 0
           · have hX0i : ¬ ((0 : Int) < (X.length : Int)) := by omega
             clear hX0
             go_wp2_with fail
             refine (HRUN.out _ _ _ _ _ _ _ _ HRv_p.out HRv_l.out).mono ?_
             rintro e w41 ⟨a8, c8, rfl, hI8, hb41⟩
             obtain ⟨hc41, hf41⟩ := bcell hb41
             have hz41 := hb41.size
             try simp at hz41
             have hN41 : Below wv.heap.size wv w41 := by
               refine Below.trans ?_ (hb41.mono zo)
               exact zb
             have hn41 := hN41.size
             have hs41_0 : w21.heap.size < w41.heap.size := by omega
             have hs41_1 : w21.heap.size + 1 < w41.heap.size := by omega
             have kb41_0_0 : w41.cell? ⟨w21.heap.size, 0, none⟩ = some (.int .i64 p) := by go_simp
             have kb41_0_1 : w41.cell? ⟨w21.heap.size, 1, none⟩ = some (.int .i64 q) := by go_simp
             have kb41_0_2 : w41.cell? ⟨w21.heap.size, 2, none⟩ = some (.slice a2 L.length c2) := by go_simp
             have kb41_1_0 : w41.cell? ⟨w21.heap.size + 1, 0, none⟩ = some (.int .i64 p) := by go_simp
             have kb41_1_1 : w41.cell? ⟨w21.heap.size + 1, 1, none⟩ = some (.int .i64 q) := by go_simp
             have kb41_1_2 : w41.cell? ⟨w21.heap.size + 1, 2, none⟩ = some (.slice a2 L.length c2) := by go_simp
             have HB41 := Lib.hid (HBv.out.trans (hN41.mono zl))
             have HR41_tab := Lib.hid (HRv_tab.out.below hN41 zl)
             have HR41_err := Lib.hid (HRv_err.out.below hN41 zl)
             have HR41_l := Lib.hid (HRv_l.out.below hN41 zl)
             have HR41_p := Lib.hid (HRv_p.out.below hN41 zl)
             clear hc41 hf41 hb41 hN41 hz41
             clear hI8
             go_wp2_with fail
             refine region_namedD ?_
             intro w42 hw42
             have hN42 : Below w41.heap.size w41 w42 := by
               rw [hw42]
               exact zb
             have hz42 : w42.heap.size = _ := congrArg (fun W : World => W.heap.size) hw42
             try simp at hz42
             have hn42 := hN42.size
             have hs42_0 : w21.heap.size < w42.heap.size := by omega
             have hs42_1 : w21.heap.size + 1 < w42.heap.size := by omega
             have hs42_2 : w41.heap.size < w42.heap.size := by omega
             have kb42_0_0 : w42.cell? ⟨w21.heap.size, 0, none⟩ = some (.int .i64 p) := by rw [hw42]; go_simp
             have kb42_0_1 : w42.cell? ⟨w21.heap.size, 1, none⟩ = some (.int .i64 q) := by rw [hw42]; go_simp
             have kb42_0_2 : w42.cell? ⟨w21.heap.size, 2, none⟩ = some (.slice a2 L.length c2) := by rw [hw42]; go_simp
             have kb42_1_0 : w42.cell? ⟨w21.heap.size + 1, 0, none⟩ = some (.int .i64 p) := by rw [hw42]; go_simp
             have kb42_1_1 : w42.cell? ⟨w21.heap.size + 1, 1, none⟩ = some (.int .i64 q) := by rw [hw42]; go_simp
             have kb42_1_2 : w42.cell? ⟨w21.heap.size + 1, 2, none⟩ = some (.slice a2 L.length c2) := by rw [hw42]; go_simp
             have kb42_2_0 : w42.cell? ⟨w41.heap.size, 0, none⟩ = some (.int .i64 0) := by rw [hw42]; go_simp
             have kb42_2_1 : w42.cell? ⟨w41.heap.size, 1, none⟩ = some (.int .i64 0) := by rw [hw42]; go_simp
             have kb42_2_2 : w42.cell? ⟨w41.heap.size, 2, none⟩ = some (.slice a8 0 c8) := by rw [hw42]; go_simp
             have HB42 := Lib.hid (HB41.out.trans (hN42.mono zl))
             have HR42_tab := Lib.hid (HR41_tab.out.below hN42 zl)
             have HR42_err := Lib.hid (HR41_err.out.below hN42 zl)
             have HR42_l := Lib.hid (HR41_l.out.below hN42 zl)
             have HR42_p := Lib.hid (HR41_p.out.below hN42 zl)
             have hwz := hn42
             clear hw42 hN42 hz42
             obtain ⟨S, hSd⟩ : ∃ S : World → Prop, (fun V => Below w42.heap.size w42 V) = S := ⟨_, rfl⟩
             have hkeep : ∀ V V' : World, S V → Below V.heap.size V V' → S V' := by rw [← hSd]; exact fun V V' h hb => h.trans (hb.mono h.size)
             have gk0 : ∀ iq : KeptBy S, iq.world.cell? ⟨w21.heap.size, 0, none⟩ = some (.int .i64 p) := by rw [← hSd]; exact fun iq => cell_below iq.ok kb42_0_0
             have gk1 : ∀ iq : KeptBy S, iq.world.cell? ⟨w21.heap.size, 1, none⟩ = some (.int .i64 q) := by rw [← hSd]; exact fun iq => cell_below iq.ok kb42_0_1
             have gk2 : ∀ iq : KeptBy S, iq.world.cell? ⟨w21.heap.size, 2, none⟩ = some (.slice a2 L.length c2) := by rw [← hSd]; exact fun iq => cell_below iq.ok kb42_0_2
             have gl : ∀ iq : KeptBy S, IsDeeds PL QL iq.world (.slice la X.length lc) X := by rw [← hSd]; exact fun iq => HR42_l.out.below iq.ok zl
             have gt : ∀ iq : KeptBy S, PowTab iq.world := by rw [← hSd]; exact fun iq => HR42_tab.out.below iq.ok zl
             have gp : ∀ iq : KeptBy S, IsPairs Pd Qd iq.world (.slice a2 L.length c2) L := by rw [← hSd]; exact fun iq => HR42_p.out.below iq.ok zl
             have gkn : Nonempty (KeptBy S) := ⟨⟨w42.drew, by rw [← hSd]; exact (Below.refl _ _).drew⟩⟩
             go_wp2_with fail
             refine wp_region_kept (S := S) (by rw [← hSd]; exact (Below.refl _ _).drew) (by kernel_rfl) (by kernel_rfl) ?_
             repeat (go_big_quiet_step ((first | (go_at_call 17; refine (HJT.out _ _ _ _ (gl _) (gt _)).mono ?_; rintro e w' ⟨rfl, hhw⟩; exact ⟨rfl, ⟨w', hkeep _ _ (KeptBy.ok _) hhw⟩, rfl⟩) | (go_at_call 13; refine (specOk_is _ _ p q L _ _ (gp _) hn6 false HD.out).mono ?_; rintro e w' ⟨rfl, hhw⟩; exact ⟨rfl, ⟨w', hkeep _ _ (KeptBy.ok _) hhw⟩, rfl⟩) | (go_at_call 19; refine (alive_any _).mono ?_; rintro e w' ⟨rfl, hhw⟩; exact ⟨rfl, ⟨w', hkeep _ _ (KeptBy.ok _) hhw⟩, rfl⟩) | fail)))
             refine wpQuiet_nil ?_
             rintro wz ⟨iz, hwz⟩
             have bwz : Below w42.heap.size w42 wz := by
               have this : S wz := by rw [hwz]; exact iz.ok
               rw [← hSd] at this
               exact this
             clear hwz iz gkn hkeep hSd gk0 gk1 gk2 gl gt gp
             have HBE := Lib.hid (HB42.out.trans (bwz.mono zl))
             clear bwz
             go_wp2
             go_ret
             exact ⟨rfl, HBE.out⟩
           · have hX0i : ((0 : Int) < (X.length : Int)) := by omega
             clear hX0
             go_wp2_with fail
             refine (specOk_is _ _ p q L _ _ HRv_p.out hn6 false HD.out).mono ?_
             rintro e w41 ⟨rfl, hb41⟩
             obtain ⟨hc41, hf41⟩ := bcell hb41
             have hz41 := hb41.size
             try simp at hz41
             have hN41 : Below wv.heap.size wv w41 := by
               refine Below.trans ?_ (hb41.mono zo)
               exact zb
             have hn41 := hN41.size
             have hs41_0 : w21.heap.size < w41.heap.size := by omega
             have hs41_1 : w21.heap.size + 1 < w41.heap.size := by omega
             have kb41_0_0 : w41.cell? ⟨w21.heap.size, 0, none⟩ = some (.int .i64 p) := by go_simp
             have kb41_0_1 : w41.cell? ⟨w21.heap.size, 1, none⟩ = some (.int .i64 q) := by go_simp
             have kb41_0_2 : w41.cell? ⟨w21.heap.size, 2, none⟩ = some (.slice a2 L.length c2) := by go_simp
             have kb41_1_0 : w41.cell? ⟨w21.heap.size + 1, 0, none⟩ = some (.int .i64 p) := by go_simp
             have kb41_1_1 : w41.cell? ⟨w21.heap.size + 1, 1, none⟩ = some (.int .i64 q) := by go_simp
             have kb41_1_2 : w41.cell? ⟨w21.heap.size + 1, 2, none⟩ = some (.slice a2 L.length c2) := by go_simp
             have HB41 := Lib.hid (HBv.out.trans (hN41.mono zl))
             have HR41_tab := Lib.hid (HRv_tab.out.below hN41 zl)
             have HR41_err := Lib.hid (HRv_err.out.below hN41 zl)
             have HR41_l := Lib.hid (HRv_l.out.below hN41 zl)
             have HR41_p := Lib.hid (HRv_p.out.below hN41 zl)
             clear hc41 hf41 hb41 hN41 hz41
             go_wp2_with fail
             refine (HRUN.out _ _ _ _ _ _ _ _ HR41_p.out HR41_l.out).mono ?_
             rintro e w42 ⟨a8, c8, rfl, hI8, hb42⟩
             obtain ⟨hc42, hf42⟩ := bcell hb42
             have hz42 := hb42.size
             try simp at hz42
             have hN42 : Below w41.heap.size w41 w42 := by
               refine Below.trans ?_ (hb42.mono zo)
               exact zb
             have hn42 := hN42.size
             have hs42_0 : w21.heap.size < w42.heap.size := by omega
             have hs42_1 : w21.heap.size + 1 < w42.heap.size := by omega
             have kb42_0_0 : w42.cell? ⟨w21.heap.size, 0, none⟩ = some (.int .i64 p) := by go_simp
             have kb42_0_1 : w42.cell? ⟨w21.heap.size, 1, none⟩ = some (.int .i64 q) := by go_simp
             have kb42_0_2 : w42.cell? ⟨w21.heap.size, 2, none⟩ = some (.slice a2 L.length c2) := by go_simp
             have kb42_1_0 : w42.cell? ⟨w21.heap.size + 1, 0, none⟩ = some (.int .i64 p) := by go_simp
             have kb42_1_1 : w42.cell? ⟨w21.heap.size + 1, 1, none⟩ = some (.int .i64 q) := by go_simp
             have kb42_1_2 : w42.cell? ⟨w21.heap.size + 1, 2, none⟩ = some (.slice a2 L.length c2) := by go_simp
             have HB42 := Lib.hid (HB41.out.trans (hN42.mono zl))
             have HR42_tab := Lib.hid (HR41_tab.out.below hN42 zl)
             have HR42_err := Lib.hid (HR41_err.out.below hN42 zl)
             have HR42_l := Lib.hid (HR41_l.out.below hN42 zl)
             have HR42_p := Lib.hid (HR41_p.out.below hN42 zl)
             clear hc42 hf42 hb42 hN42 hz42
             clear hI8
             go_wp2_with fail
             refine region_namedD ?_
             intro w43 hw43
             have hN43 : Below w42.heap.size w42 w43 := by
               rw [hw43]
               exact zb
             have hz43 : w43.heap.size = _ := congrArg (fun W : World => W.heap.size) hw43
             try simp at hz43
             have hn43 := hN43.size
             have hs43_0 : w21.heap.size < w43.heap.size := by omega
             have hs43_1 : w21.heap.size + 1 < w43.heap.size := by omega
             have hs43_2 : w42.heap.size < w43.heap.size := by omega
             have kb43_0_0 : w43.cell? ⟨w21.heap.size, 0, none⟩ = some (.int .i64 p) := by rw [hw43]; go_simp
             have kb43_0_1 : w43.cell? ⟨w21.heap.size, 1, none⟩ = some (.int .i64 q) := by rw [hw43]; go_simp
             have kb43_0_2 : w43.cell? ⟨w21.heap.size, 2, none⟩ = some (.slice a2 L.length c2) := by rw [hw43]; go_simp
             have kb43_1_0 : w43.cell? ⟨w21.heap.size + 1, 0, none⟩ = some (.int .i64 p) := by rw [hw43]; go_simp
             have kb43_1_1 : w43.cell? ⟨w21.heap.size + 1, 1, none⟩ = some (.int .i64 q) := by rw [hw43]; go_simp
             have kb43_1_2 : w43.cell? ⟨w21.heap.size + 1, 2, none⟩ = some (.slice a2 L.length c2) := by rw [hw43]; go_simp
             have kb43_2_0 : w43.cell? ⟨w42.heap.size, 0, none⟩ = some (.int .i64 0) := by rw [hw43]; go_simp
             have kb43_2_1 : w43.cell? ⟨w42.heap.size, 1, none⟩ = some (.int .i64 0) := by rw [hw43]; go_simp
             have kb43_2_2 : w43.cell? ⟨w42.heap.size, 2, none⟩ = some (.slice a8 0 c8) := by rw [hw43]; go_simp
             have HB43 := Lib.hid (HB42.out.trans (hN43.mono zl))
             have HR43_tab := Lib.hid (HR42_tab.out.below hN43 zl)
             have HR43_err := Lib.hid (HR42_err.out.below hN43 zl)
             have HR43_l := Lib.hid (HR42_l.out.below hN43 zl)
             have HR43_p := Lib.hid (HR42_p.out.below hN43 zl)
             have hwz := hn43
             clear hw43 hN43 hz43
             obtain ⟨S, hSd⟩ : ∃ S : World → Prop, (fun V => Below w43.heap.size w43 V) = S := ⟨_, rfl⟩
             have hkeep : ∀ V V' : World, S V → Below V.heap.size V V' → S V' := by rw [← hSd]; exact fun V V' h hb => h.trans (hb.mono h.size)
             have gk0 : ∀ iq : KeptBy S, iq.world.cell? ⟨w21.heap.size, 0, none⟩ = some (.int .i64 p) := by rw [← hSd]; exact fun iq => cell_below iq.ok kb43_0_0
             have gk1 : ∀ iq : KeptBy S, iq.world.cell? ⟨w21.heap.size, 1, none⟩ = some (.int .i64 q) := by rw [← hSd]; exact fun iq => cell_below iq.ok kb43_0_1
             have gk2 : ∀ iq : KeptBy S, iq.world.cell? ⟨w21.heap.size, 2, none⟩ = some (.slice a2 L.length c2) := by rw [← hSd]; exact fun iq => cell_below iq.ok kb43_0_2
             have gl : ∀ iq : KeptBy S, IsDeeds PL QL iq.world (.slice la X.length lc) X := by rw [← hSd]; exact fun iq => HR43_l.out.below iq.ok zl
             have gt : ∀ iq : KeptBy S, PowTab iq.world := by rw [← hSd]; exact fun iq => HR43_tab.out.below iq.ok zl
             have gp : ∀ iq : KeptBy S, IsPairs Pd Qd iq.world (.slice a2 L.length c2) L := by rw [← hSd]; exact fun iq => HR43_p.out.below iq.ok zl
             have gkn : Nonempty (KeptBy S) := ⟨⟨w43.drew, by rw [← hSd]; exact (Below.refl _ _).drew⟩⟩
             go_wp2_with fail
             refine wp_region_kept (S := S) (by rw [← hSd]; exact (Below.refl _ _).drew) (by kernel_rfl) (by kernel_rfl) ?_
             repeat (go_big_quiet_step ((first | (go_at_call 17; refine (HJT.out _ _ _ _ (gl _) (gt _)).mono ?_; rintro e w' ⟨rfl, hhw⟩; exact ⟨rfl, ⟨w', hkeep _ _ (KeptBy.ok _) hhw⟩, rfl⟩) | (go_at_call 13; refine (specOk_is _ _ p q L _ _ (gp _) hn6 false HD.out).mono ?_; rintro e w' ⟨rfl, hhw⟩; exact ⟨rfl, ⟨w', hkeep _ _ (KeptBy.ok _) hhw⟩, rfl⟩) | (go_at_call 19; refine (alive_any _).mono ?_; rintro e w' ⟨rfl, hhw⟩; exact ⟨rfl, ⟨w', hkeep _ _ (KeptBy.ok _) hhw⟩, rfl⟩) | fail)))
             refine wpQuiet_nil ?_
             rintro wz ⟨iz, hwz⟩
             have bwz : Below w43.heap.size w43 wz := by
               have this : S wz := by rw [hwz]; exact iz.ok
               rw [← hSd] at this
               exact this
             clear hwz iz gkn hkeep hSd gk0 gk1 gk2 gl gt gp
             have HBE := Lib.hid (HB43.out.trans (bwz.mono zl))
             clear bwz
             go_wp2
             go_ret
             exact ⟨rfl, HBE.out⟩
       | true =>
         have HD := Lib.hid hdk
         clear hdk
         go_wp2_with fail
         go_loopw [16] (fun x wv => ∃ (i m : Nat) (dp dq : Int) (M : List (Int × Int)) (a3 : Option Addr) (c3 P1 Q1 : Nat), i ≤ X.length ∧ x = .int .i64 i ∧ Hid (runN ⟨(p, q), L⟩ (X.take i) = (⟨(dp, dq), M⟩, m)) ∧ wv.cell? ⟨w21.heap.size + 1, 0, none⟩ = some (.int .i64 dp) ∧ wv.cell? ⟨w21.heap.size + 1, 1, none⟩ = some (.int .i64 dq) ∧ wv.cell? ⟨w21.heap.size + 1, 2, none⟩ = some (.slice a3 M.length c3) ∧ wv.frozen? ⟨w21.heap.size + 1, 0, none⟩ = false ∧ wv.frozen? ⟨w21.heap.size + 1, 1, none⟩ = false ∧ wv.frozen? ⟨w21.heap.size + 1, 2, none⟩ = false ∧ IsPairs P1 Q1 wv (.slice a3 M.length c3) M ∧ (w21.heap.size + 1 < P1 ∨ Q1 ≤ w21.heap.size + 1) ∧ w21.heap.size + 1 < wv.heap.size ∧ Below (w21.heap.size + 1) (w21.alloc (.cells #[.int .i64 p, .int .i64 q, .slice a2 L.length c2] 32)) wv) (fun x _ => X.length - (intOf x).toNat)
         case atStart => exact ⟨0, 0, p, q, L, a2, c2, Pd, Qd, Nat.zero_le _, rfl, Lib.hid rfl, by go_simp, by go_simp, by go_simp, by go_simp, by go_simp, by go_simp, (HR21_p.out.allocd _).allocd _, .inr zO, by simp, (Below.refl _ _).alloc (by simp) _⟩
         case round =>
           rename World => wv
           obtain ⟨i, m, dp, dq, M, a3, c3, P1, Q1, hi, rfl, HRN, b0, b1, b2, g0, g1, g2, hM, hap, hzn, hBv⟩ := hrel
           have hzw := hBv.size
           simp at hzw
           have hdv : w21.heap.size < wv.heap.size := by omega
           have hQ1 : Q1 ≤ wv.heap.size := by obtain ⟨_, _, _, h, _⟩ := id hM; exact h
           have kd0 : wv.cell? ⟨w21.heap.size, 0, none⟩ = some (.int .i64 p) := (hBv.cell (p := ⟨w21.heap.size, 0, none⟩) (by show w21.heap.size < _; first | omega | (simp <;> omega))).trans (by go_simp)
           have kd1 : wv.cell? ⟨w21.heap.size, 1, none⟩ = some (.int .i64 q) := (hBv.cell (p := ⟨w21.heap.size, 1, none⟩) (by show w21.heap.size < _; first | omega | (simp <;> omega))).trans (by go_simp)
           have kd2 : wv.cell? ⟨w21.heap.size, 2, none⟩ = some (.slice a2 L.length c2) := (hBv.cell (p := ⟨w21.heap.size, 2, none⟩) (by show w21.heap.size < _; first | omega | (simp <;> omega))).trans (by go_simp)
           have HRv_tab := Lib.hid ((HR21_tab.out.below ((Below.refl w21.heap.size w21).alloc (Nat.le_refl _) (.cells #[.int .i64 p, .int .i64 q, .slice a2 L.length c2] 32)) zl).below hBv zo)
           have HRv_err := Lib.hid ((HR21_err.out.below ((Below.refl w21.heap.size w21).alloc (Nat.le_refl _) (.cells #[.int .i64 p, .int .i64 q, .slice a2 L.length c2] 32)) zl).below hBv zo)
           have HRv_l := Lib.hid ((HR21_l.out.below ((Below.refl w21.heap.size w21).alloc (Nat.le_refl _) (.cells #[.int .i64 p, .int .i64 q, .slice a2 L.length c2] 32)) zl).below hBv zo)
           have HRv_p := Lib.hid ((HR21_p.out.below ((Below.refl w21.heap.size w21).alloc (Nat.le_refl _) (.cells #[.int .i64 p, .int .i64 q, .slice a2 L.length c2] 32)) zl).below hBv zo)
           have HBv := Lib.hid (HB21.out.trans (((Below.refl w21.heap.size w21).alloc (Nat.le_refl _) (.cells #[.int .i64 p, .int .i64 q, .slice a2 L.length c2] 32)).mono zO |>.trans (hBv.mono zO)))
           have HBq := Lib.hid hBv
           have HM := Lib.hid hM
           have hdi : deskN ⟨(dp, dq), M⟩ = true := by have := runN_desk (X.take i) HD.out; rwa [HRN.out] at this
           have hM8 : M.length ≤ 8 := (deskN_of hdi).2.1
           have hMn : M.length ≤ 1048600 := by omega
           clear hBv hM
           by_cases hlt : i < X.length
           · obtain ⟨⟨kx, ax, bx⟩, hx⟩ : ∃ x, X[i]? = some x := ⟨X[i], by simp [hlt]⟩
             obtain ⟨_, _, hve, hCl, hks⟩ := id HRv_l.out
             cases hve
             rcases hks with rfl | ⟨g, off, rfl, _, hg2, hc, _⟩
             · simp at hlt
             obtain ⟨x0, x1, x2⟩ := hc i _ hx
             have hgr : g < wv.heap.size := by omega
             have HNX := runN_take (d := ⟨(p, q), L⟩) hx
             rw [HRN.out] at HNX
             dsimp only at HNX
             have hne := HNO.out _ (List.mem_of_getElem? hx)
             have htl12 := deedT_len ⟨kx, ax, bx⟩
             have hTX := fun (W : World) hT => implText_any kx ax bx W hT
             obtain ⟨tx, htx⟩ : ∃ tx, txt (deedT ⟨kx, ax, bx⟩) = tx := ⟨_, rfl⟩
             have htl : tx.data.toList = deedT ⟨kx, ax, bx⟩ := by rw [← htx]; rfl
             have hts12 : tx.size ≤ 12 := by rw [← htx, txt_size]; exact htl12
             rw [htx] at hTX
             obtain ⟨rp, rq, R, ok, hdo⟩ : ∃ rp rq R ok, doN ⟨(dp, dq), M⟩ ⟨kx, ax, bx⟩ = (⟨(rp, rq), R⟩, ok) := ⟨_, _, _, _, rfl⟩
             have hlv := lineV_deed (l := tx.data.toList) hdi (by rw [htl]; exact readN_text hne) hdo
             obtain ⟨ans, hans⟩ : ∃ ans, (if ok = true then okLn else notLn) = ans := ⟨_, rfl⟩
             have hoc : ans = okLn ∨ ans = notLn := by rw [← hans]; split; exact .inl rfl; exact .inr rfl
             rw [hans] at hlv
             have hLN := fun (W : World) (B C : Nat) (a : Option Addr) (c : Nat) (hI : IsPairs B C W (.slice a M.length c) M) hT hE => implLine_any B C dp dq M _ tx W hI hMn zO hT hE
             unfold LineS at hLN
             rw [hlv] at hLN
             dsimp only at hLN
             rw [hdo] at HNX
             dsimp only at HNX
             have HNY := Lib.hid HNX
             have HTX := Lib.hid hTX
             have HLN := Lib.hid hLN
             have HOC := Lib.hid hoc
             have hii : (i : Int) < (X.length : Int) := by omega
             have i0' : (0 : Int) ≤ (i : Int) := by omega
             have W1 : IntKind.i64.wrap ((i : Int) + 1) = (i : Int) + 1 := by rw [IntKind.wrap_i64]; omega
             clear HNX hTX hLN hoc hlv hdo hans hc hx hne htx htl htl12 hdi HRN
             go_wp2_with fail
             refine (specOk_is _ _ p q L _ _ HRv_p.out hn6 true HD.out).mono ?_
             rintro e w61 ⟨rfl, hb61⟩
             obtain ⟨hc61, hf61⟩ := bcell hb61
             have hz61 := hb61.size
             try simp at hz61
             have hN61 : Below wv.heap.size wv w61 := by
               refine Below.trans ?_ (hb61.mono zo)
               exact zb
             have hn61 := hN61.size
             have hs61_0 : w21.heap.size < w61.heap.size := by omega
             have hs61_1 : w21.heap.size + 1 < w61.heap.size := by omega
             have hs61_2 : g < w61.heap.size := by omega
             have kb61_0_0 : w61.cell? ⟨w21.heap.size, 0, none⟩ = some (.int .i64 p) := by go_simp
             have kb61_0_1 : w61.cell? ⟨w21.heap.size, 1, none⟩ = some (.int .i64 q) := by go_simp
             have kb61_0_2 : w61.cell? ⟨w21.heap.size, 2, none⟩ = some (.slice a2 L.length c2) := by go_simp
             have kb61_1_0 : w61.cell? ⟨w21.heap.size + 1, 0, none⟩ = some (.int .i64 dp) := by go_simp
             have kb61_1_1 : w61.cell? ⟨w21.heap.size + 1, 1, none⟩ = some (.int .i64 dq) := by go_simp
             have kb61_1_2 : w61.cell? ⟨w21.heap.size + 1, 2, none⟩ = some (.slice a3 M.length c3) := by go_simp
             have kb61_2_0 : w61.cell? ⟨g, off + i * 3, none⟩ = some (.int .i64 kx) := by go_simp
             have kb61_2_1 : w61.cell? ⟨g, off + i * 3 + 1, none⟩ = some (.int .i64 ax) := by go_simp
             have kb61_2_2 : w61.cell? ⟨g, off + i * 3 + 2, none⟩ = some (.int .i64 bx) := by go_simp
             have HB61 := Lib.hid ((Below.refl wv.heap.size wv).trans (hN61.mono zl))
             have HR61_tab := Lib.hid (HRv_tab.out.below hN61 zl)
             have HR61_err := Lib.hid (HRv_err.out.below hN61 zl)
             have HR61_l := Lib.hid (HRv_l.out.below hN61 zl)
             have HR61_p := Lib.hid (HRv_p.out.below hN61 zl)
             have HR61_m := Lib.hid (HM.out.below hN61 zl)
             have fz61_0 : w61.frozen? ⟨w21.heap.size + 1, 0, none⟩ = false := (hN61.frozen (p := ⟨w21.heap.size + 1, 0, none⟩) (by show w21.heap.size + 1 < _; omega)).trans g0
             have fz61_1 : w61.frozen? ⟨w21.heap.size + 1, 1, none⟩ = false := (hN61.frozen (p := ⟨w21.heap.size + 1, 1, none⟩) (by show w21.heap.size + 1 < _; omega)).trans g1
             have fz61_2 : w61.frozen? ⟨w21.heap.size + 1, 2, none⟩ = false := (hN61.frozen (p := ⟨w21.heap.size + 1, 2, none⟩) (by show w21.heap.size + 1 < _; omega)).trans g2
             clear hc61 hf61 hb61 hN61 hz61
             go_wp2_with fail
             go_cut [17, 18] from 101 to 110 (fun s_ t_ wx => ∃ (b5 B5 C5 : Nat) (a5 : Option Addr) (c5 : Nat), s_ = .pointer (some ⟨b5, 0, none⟩) ∧ t_ = .string ans ∧ (w61.heap.size ≤ b5 ∧ b5 < wx.heap.size) ∧ (wx.cell? ⟨b5, 0, none⟩ = some (.int .i64 rp) ∧ wx.cell? ⟨b5, 1, none⟩ = some (.int .i64 rq) ∧ wx.cell? ⟨b5, 2, none⟩ = some (.slice a5 R.length c5)) ∧ IsPairs B5 C5 wx (.slice a5 R.length c5) R ∧ (w61.heap.size ≤ B5 ∧ C5 ≤ wx.heap.size ∧ (b5 < B5 ∨ C5 ≤ b5)) ∧ Below w61.heap.size w61 wx)
             case first =>
               go_region_held3 (fun W_ => W_.cell? ⟨w21.heap.size + 1, 0, none⟩ = some (.int .i64 dp) ∧ W_.cell? ⟨w21.heap.size + 1, 1, none⟩ = some (.int .i64 dq) ∧ W_.cell? ⟨w21.heap.size + 1, 2, none⟩ = some (.slice a3 M.length c3) ∧ W_.cell? ⟨g, off + i * 3, none⟩ = some (.int .i64 kx) ∧ W_.cell? ⟨g, off + i * 3 + 1, none⟩ = some (.int .i64 ax) ∧ W_.cell? ⟨g, off + i * 3 + 2, none⟩ = some (.int .i64 bx))
                 ((go_split_ands; refine ⟨?_, ?_, ?_, ?_, ?_, ?_⟩ <;> (repeat (first | with_reducible assumption | with_reducible refine cell_alloc_is _ ?_ | with_reducible refine cell_drew_is ?_ | with_reducible refine cell_set_is ?_ ?_ | omega)); done))
                 ((first | (go_at_call 15; refine (HTX.out _ (HR61_tab.out.below (show Below w61.heap.size w61 _ by exact zb) zl)).mono ?_; rintro e w_2 ⟨rfl, hb_2⟩; obtain ⟨hc_2, hf_2⟩ := bcell hb_2; have hz_2 := hb_2.size; (try simp at hz_2); have kx0 := (hb_2.cell (p := ⟨w21.heap.size + 1, 0, none⟩) zo).trans (show _ = some (.int .i64 dp) by (repeat (first | with_reducible assumption | with_reducible refine cell_alloc_is _ ?_ | with_reducible refine cell_drew_is ?_ | with_reducible refine cell_set_is ?_ ?_ | omega))); have kx1 := (hb_2.cell (p := ⟨w21.heap.size + 1, 1, none⟩) zo).trans (show _ = some (.int .i64 dq) by (repeat (first | with_reducible assumption | with_reducible refine cell_alloc_is _ ?_ | with_reducible refine cell_drew_is ?_ | with_reducible refine cell_set_is ?_ ?_ | omega))); have kx2 := (hb_2.cell (p := ⟨w21.heap.size + 1, 2, none⟩) zo).trans (show _ = some (.slice a3 M.length c3) by (repeat (first | with_reducible assumption | with_reducible refine cell_alloc_is _ ?_ | with_reducible refine cell_drew_is ?_ | with_reducible refine cell_set_is ?_ ?_ | omega))); have kx3 := (hb_2.cell (p := ⟨g, off + i * 3, none⟩) zo).trans (show _ = some (.int .i64 kx) by (repeat (first | with_reducible assumption | with_reducible refine cell_alloc_is _ ?_ | with_reducible refine cell_drew_is ?_ | with_reducible refine cell_set_is ?_ ?_ | omega))); have kx4 := (hb_2.cell (p := ⟨g, off + i * 3 + 1, none⟩) zo).trans (show _ = some (.int .i64 ax) by (repeat (first | with_reducible assumption | with_reducible refine cell_alloc_is _ ?_ | with_reducible refine cell_drew_is ?_ | with_reducible refine cell_set_is ?_ ?_ | omega))); have kx5 := (hb_2.cell (p := ⟨g, off + i * 3 + 2, none⟩) zo).trans (show _ = some (.int .i64 bx) by (repeat (first | with_reducible assumption | with_reducible refine cell_alloc_is _ ?_ | with_reducible refine cell_drew_is ?_ | with_reducible refine cell_set_is ?_ ?_ | omega))); (try have hq_2_w61 : w61.heap.size < w_2.heap.size := by omega); (try have hq_2_w_4 : w_4.heap.size < w_2.heap.size := by omega)) | (go_at_call 14; refine (HLN.out _ _ _ _ _ (HR61_m.out.below (show Below w61.heap.size w61 _ by exact zb) zl) (HR61_tab.out.below (show Below w61.heap.size w61 _ by exact zb) zl) (HR61_err.out.below (show Below w61.heap.size w61 _ by exact zb) zl)).mono ?_; rintro e w_4 ⟨a4, c4, rfl, hI4, hb_4⟩; obtain ⟨hc_4, hf_4⟩ := bcell hb_4; have hz_4 := hb_4.size; (try simp at hz_4); have kx0 := (hb_4.cell (p := ⟨w21.heap.size + 1, 0, none⟩) zo).trans (show _ = some (.int .i64 dp) by (repeat (first | with_reducible assumption | with_reducible refine cell_alloc_is _ ?_ | with_reducible refine cell_drew_is ?_ | with_reducible refine cell_set_is ?_ ?_ | omega))); have kx1 := (hb_4.cell (p := ⟨w21.heap.size + 1, 1, none⟩) zo).trans (show _ = some (.int .i64 dq) by (repeat (first | with_reducible assumption | with_reducible refine cell_alloc_is _ ?_ | with_reducible refine cell_drew_is ?_ | with_reducible refine cell_set_is ?_ ?_ | omega))); have kx2 := (hb_4.cell (p := ⟨w21.heap.size + 1, 2, none⟩) zo).trans (show _ = some (.slice a3 M.length c3) by (repeat (first | with_reducible assumption | with_reducible refine cell_alloc_is _ ?_ | with_reducible refine cell_drew_is ?_ | with_reducible refine cell_set_is ?_ ?_ | omega))); have kx3 := (hb_4.cell (p := ⟨g, off + i * 3, none⟩) zo).trans (show _ = some (.int .i64 kx) by (repeat (first | with_reducible assumption | with_reducible refine cell_alloc_is _ ?_ | with_reducible refine cell_drew_is ?_ | with_reducible refine cell_set_is ?_ ?_ | omega))); have kx4 := (hb_4.cell (p := ⟨g, off + i * 3 + 1, none⟩) zo).trans (show _ = some (.int .i64 ax) by (repeat (first | with_reducible assumption | with_reducible refine cell_alloc_is _ ?_ | with_reducible refine cell_drew_is ?_ | with_reducible refine cell_set_is ?_ ?_ | omega))); have kx5 := (hb_4.cell (p := ⟨g, off + i * 3 + 2, none⟩) zo).trans (show _ = some (.int .i64 bx) by (repeat (first | with_reducible assumption | with_reducible refine cell_alloc_is _ ?_ | with_reducible refine cell_drew_is ?_ | with_reducible refine cell_set_is ?_ ?_ | omega))); obtain ⟨B4, hB4, hI5⟩ := (⟨_, rfl, hI4⟩ : ∃ B, B = _ ∧ IsPairs B w_4.heap.size w_4 (.slice a4 R.length c4) R); (try simp at hB4); (try have hq_4_w61 : w61.heap.size < w_4.heap.size := by omega); (try have hq_4_w_2 : w_2.heap.size < w_4.heap.size := by omega)) | fail))
               all_goals (go_wp2_with fail; go_meet)
               all_goals
                 case rel =>
                   refine ⟨_, B4, w_4.heap.size, a4, c4, rfl, rfl, ⟨?_, ?_⟩, ⟨?_, ?_, ?_⟩, ?_, ⟨?_, ?_, ?_⟩, ?_⟩
                   · first | omega | (simp <;> omega)
                   · first | omega | (simp <;> omega)
                   · go_simp
                   · go_simp
                   · go_simp
                   · (repeat (first | exact hI5 | refine IsPairs.set2 ?_ zo _ | refine IsPairs.allocd ?_ _))
                   · first | omega | (simp <;> omega)
                   · first | omega | (simp <;> omega)
                   · first | omega | (simp <;> omega)
                   · exact zb
             rename World => w62
             obtain ⟨b6, B6, C6, a6, c6, rfl, rfl, ⟨hb6a, hb6b⟩, ⟨kq6_0, kq6_1, kq6_2⟩, hI6, ⟨hB6, hC6, hD6⟩, hN62⟩ := hcut
             obtain ⟨hc62, hf62⟩ := bcell hN62
             have hn62 := hN62.size
             have hs62_0 : w21.heap.size < w62.heap.size := by omega
             have hs62_1 : w21.heap.size + 1 < w62.heap.size := by omega
             have hs62_2 : g < w62.heap.size := by omega
             have kb62_0_0 : w62.cell? ⟨w21.heap.size, 0, none⟩ = some (.int .i64 p) := by go_simp
             have kb62_0_1 : w62.cell? ⟨w21.heap.size, 1, none⟩ = some (.int .i64 q) := by go_simp
             have kb62_0_2 : w62.cell? ⟨w21.heap.size, 2, none⟩ = some (.slice a2 L.length c2) := by go_simp
             have kb62_1_0 : w62.cell? ⟨w21.heap.size + 1, 0, none⟩ = some (.int .i64 dp) := by go_simp
             have kb62_1_1 : w62.cell? ⟨w21.heap.size + 1, 1, none⟩ = some (.int .i64 dq) := by go_simp
             have kb62_1_2 : w62.cell? ⟨w21.heap.size + 1, 2, none⟩ = some (.slice a3 M.length c3) := by go_simp
             have kb62_2_0 : w62.cell? ⟨g, off + i * 3, none⟩ = some (.int .i64 kx) := by go_simp
             have kb62_2_1 : w62.cell? ⟨g, off + i * 3 + 1, none⟩ = some (.int .i64 ax) := by go_simp
             have kb62_2_2 : w62.cell? ⟨g, off + i * 3 + 2, none⟩ = some (.int .i64 bx) := by go_simp
             have HB62 := Lib.hid (HB61.out.trans (hN62.mono zl))
             have HR62_tab := Lib.hid (HR61_tab.out.below hN62 zl)
             have HR62_err := Lib.hid (HR61_err.out.below hN62 zl)
             have HR62_l := Lib.hid (HR61_l.out.below hN62 zl)
             have HR62_p := Lib.hid (HR61_p.out.below hN62 zl)
             have HR62_m := Lib.hid (HR61_m.out.below hN62 zl)
             have fz62_0 : w62.frozen? ⟨w21.heap.size + 1, 0, none⟩ = false := (hN62.frozen (p := ⟨w21.heap.size + 1, 0, none⟩) (by show w21.heap.size + 1 < _; omega)).trans fz61_0
             have fz62_1 : w62.frozen? ⟨w21.heap.size + 1, 1, none⟩ = false := (hN62.frozen (p := ⟨w21.heap.size + 1, 1, none⟩) (by show w21.heap.size + 1 < _; omega)).trans fz61_1
             have fz62_2 : w62.frozen? ⟨w21.heap.size + 1, 2, none⟩ = false := (hN62.frozen (p := ⟨w21.heap.size + 1, 2, none⟩) (by show w21.heap.size + 1 < _; omega)).trans fz61_2
             clear hc62 hf62 hN62
             have HX6 := Lib.hid hI6
             clear hI6
             have hoc := HOC.out
             rcases hoc with ho | ho
             · have h1 : ans.toList = [111, 107] := by rw [ho, bl_toList]; rfl
               clear ho HOC
               go_wp2
               go_roundw
               case rel => exact ⟨i + 1, _, rp, rq, R, a6, c6, B6, C6, by omega, congrArg (Value.int .i64) zO, HNY, by go_simp, by go_simp, by go_simp, by go_simp, by go_simp, by go_simp, ((HX6.out.set2 (p := ⟨w21.heap.size + 1, 0, none⟩) (.inl (by show w21.heap.size + 1 < B6; omega)) _).set2 (p := ⟨w21.heap.size + 1, 1, none⟩) (.inl (by show w21.heap.size + 1 < B6; omega)) _).set2 (p := ⟨w21.heap.size + 1, 2, none⟩) (.inl (by show w21.heap.size + 1 < B6; omega)) _, .inl zO, by simp [World.setCell]; omega, (((HBq.out.trans (HB62.out.mono zO)).setCell (p := ⟨w21.heap.size + 1, 0, none⟩) (by show _ ≤ w21.heap.size + 1; omega) _).setCell (p := ⟨w21.heap.size + 1, 1, none⟩) (by show _ ≤ w21.heap.size + 1; omega) _).setCell (p := ⟨w21.heap.size + 1, 2, none⟩) (by show _ ≤ w21.heap.size + 1; omega) _⟩
               case measure => simp [intOf]; omega
             · have h0 : ans.toList = [110, 111, 116] := by rw [ho, bl_toList]; rfl
               have h2 : ¬ ans.toList = [111, 107] := by rw [h0]; decide
               have h3 : (!ans.toList == [110, 111, 116]) = false := by rw [h0]; rfl
               have h4 : (!ans.toList == [111, 107]) = true := by rw [h0]; rfl
               clear ho HOC h0
               go_wp2
               go_roundw
               case rel => exact ⟨i + 1, _, rp, rq, R, a6, c6, B6, C6, by omega, congrArg (Value.int .i64) zO, HNY, by go_simp, by go_simp, by go_simp, by go_simp, by go_simp, by go_simp, ((HX6.out.set2 (p := ⟨w21.heap.size + 1, 0, none⟩) (.inl (by show w21.heap.size + 1 < B6; omega)) _).set2 (p := ⟨w21.heap.size + 1, 1, none⟩) (.inl (by show w21.heap.size + 1 < B6; omega)) _).set2 (p := ⟨w21.heap.size + 1, 2, none⟩) (.inl (by show w21.heap.size + 1 < B6; omega)) _, .inl zO, by simp [World.setCell]; omega, (((HBq.out.trans (HB62.out.mono zO)).setCell (p := ⟨w21.heap.size + 1, 0, none⟩) (by show _ ≤ w21.heap.size + 1; omega) _).setCell (p := ⟨w21.heap.size + 1, 1, none⟩) (by show _ ≤ w21.heap.size + 1; omega) _).setCell (p := ⟨w21.heap.size + 1, 2, none⟩) (by show _ ≤ w21.heap.size + 1; omega) _⟩
               case measure => simp [intOf]; omega
           · obtain rfl : i = X.length := by omega
             have hli2 : ¬ ((X.length : Int) < (X.length : Int)) := by omega
             have hfin : runN ⟨(p, q), L⟩ X = (⟨(dp, dq), M⟩, m) := by have := HRN.out; rwa [List.take_length] at this
             by_cases h40 : X.length ≤ 40
             · have hzr : runR ⟨(p, q), L⟩ X = (⟨(dp, dq), M⟩, m) := by rw [runR_yes HD.out h40]; exact hfin
               have hRUN := fun (W : World) (B C B' C' : Nat) (a : Option Addr) (c : Nat) (u : Value) (hI : IsPairs B C W (.slice a L.length c) L) (hD : IsDeeds B' C' W u X) => implRun_any B C B' C' p q L X _ u W hI hn6 hD hXn
               unfold RanS at hRUN
               rw [hzr] at hRUN
               dsimp only [List.length_nil] at hRUN
               have HRUN := Lib.hid hRUN
               clear hRUN
               have hg3 : decide ((40 : Int) < (X.length : Int)) = false := by simp; omega
               have h40i : ¬ ((40 : Int) < (X.length : Int)) := by omega
               clear hzr hfin HRN hdi
               go_wp2_with fail
               refine (HRUN.out _ _ _ _ _ _ _ _ HRv_p.out HRv_l.out).mono ?_
               rintro e w41 ⟨a8, c8, rfl, hI8, hb41⟩
               obtain ⟨hc41, hf41⟩ := bcell hb41
               have hz41 := hb41.size
               try simp at hz41
               have hN41 : Below wv.heap.size wv w41 := by
                 refine Below.trans ?_ (hb41.mono zo)
                 exact zb
               have hn41 := hN41.size
               have hs41_0 : w21.heap.size < w41.heap.size := by omega
               have hs41_1 : w21.heap.size + 1 < w41.heap.size := by omega
               have kb41_0_0 : w41.cell? ⟨w21.heap.size, 0, none⟩ = some (.int .i64 p) := by go_simp
               have kb41_0_1 : w41.cell? ⟨w21.heap.size, 1, none⟩ = some (.int .i64 q) := by go_simp
               have kb41_0_2 : w41.cell? ⟨w21.heap.size, 2, none⟩ = some (.slice a2 L.length c2) := by go_simp
               have kb41_1_0 : w41.cell? ⟨w21.heap.size + 1, 0, none⟩ = some (.int .i64 dp) := by go_simp
               have kb41_1_1 : w41.cell? ⟨w21.heap.size + 1, 1, none⟩ = some (.int .i64 dq) := by go_simp
               have kb41_1_2 : w41.cell? ⟨w21.heap.size + 1, 2, none⟩ = some (.slice a3 M.length c3) := by go_simp
               have HB41 := Lib.hid (HBv.out.trans (hN41.mono zl))
               have HR41_tab := Lib.hid (HRv_tab.out.below hN41 zl)
               have HR41_err := Lib.hid (HRv_err.out.below hN41 zl)
               have HR41_l := Lib.hid (HRv_l.out.below hN41 zl)
               have HR41_p := Lib.hid (HRv_p.out.below hN41 zl)
               have HR41_m := Lib.hid (HM.out.below hN41 zl)
               clear hc41 hf41 hb41 hN41 hz41
               obtain ⟨Pe, Qe, hE⟩ : ∃ B C, IsPairs B C w41 (.slice a8 M.length c8) M := ⟨_, _, hI8⟩
               have hQe : Qe ≤ w41.heap.size := by obtain ⟨_, _, _, h, _⟩ := id hE; exact h
               clear hI8
               have HR41_e := Lib.hid (hE)
               clear hE
               go_wp2_with fail
               refine region_namedD ?_
               intro w42 hw42
               have hN42 : Below w41.heap.size w41 w42 := by
                 rw [hw42]
                 exact zb
               have hz42 : w42.heap.size = _ := congrArg (fun W : World => W.heap.size) hw42
               try simp at hz42
               have hn42 := hN42.size
               have hs42_0 : w21.heap.size < w42.heap.size := by omega
               have hs42_1 : w21.heap.size + 1 < w42.heap.size := by omega
               have hs42_2 : w41.heap.size < w42.heap.size := by omega
               have kb42_0_0 : w42.cell? ⟨w21.heap.size, 0, none⟩ = some (.int .i64 p) := by rw [hw42]; go_simp
               have kb42_0_1 : w42.cell? ⟨w21.heap.size, 1, none⟩ = some (.int .i64 q) := by rw [hw42]; go_simp
               have kb42_0_2 : w42.cell? ⟨w21.heap.size, 2, none⟩ = some (.slice a2 L.length c2) := by rw [hw42]; go_simp
               have kb42_1_0 : w42.cell? ⟨w21.heap.size + 1, 0, none⟩ = some (.int .i64 dp) := by rw [hw42]; go_simp
               have kb42_1_1 : w42.cell? ⟨w21.heap.size + 1, 1, none⟩ = some (.int .i64 dq) := by rw [hw42]; go_simp
               have kb42_1_2 : w42.cell? ⟨w21.heap.size + 1, 2, none⟩ = some (.slice a3 M.length c3) := by rw [hw42]; go_simp
               have kb42_2_0 : w42.cell? ⟨w41.heap.size, 0, none⟩ = some (.int .i64 dp) := by rw [hw42]; go_simp
               have kb42_2_1 : w42.cell? ⟨w41.heap.size, 1, none⟩ = some (.int .i64 dq) := by rw [hw42]; go_simp
               have kb42_2_2 : w42.cell? ⟨w41.heap.size, 2, none⟩ = some (.slice a8 M.length c8) := by rw [hw42]; go_simp
               have HB42 := Lib.hid (HB41.out.trans (hN42.mono zl))
               have HR42_tab := Lib.hid (HR41_tab.out.below hN42 zl)
               have HR42_err := Lib.hid (HR41_err.out.below hN42 zl)
               have HR42_l := Lib.hid (HR41_l.out.below hN42 zl)
               have HR42_p := Lib.hid (HR41_p.out.below hN42 zl)
               have HR42_m := Lib.hid (HR41_m.out.below hN42 zl)
               have HR42_e := Lib.hid (HR41_e.out.below hN42 zl)
               have hwz := hn42
               clear hw42 hN42 hz42
               obtain ⟨S, hSd⟩ : ∃ S : World → Prop, (fun V => Below w42.heap.size w42 V) = S := ⟨_, rfl⟩
               have hkeep : ∀ V V' : World, S V → Below V.heap.size V V' → S V' := by rw [← hSd]; exact fun V V' h hb => h.trans (hb.mono h.size)
               have gk0 : ∀ iq : KeptBy S, iq.world.cell? ⟨w21.heap.size, 0, none⟩ = some (.int .i64 p) := by rw [← hSd]; exact fun iq => cell_below iq.ok kb42_0_0
               have gk1 : ∀ iq : KeptBy S, iq.world.cell? ⟨w21.heap.size, 1, none⟩ = some (.int .i64 q) := by rw [← hSd]; exact fun iq => cell_below iq.ok kb42_0_1
               have gk2 : ∀ iq : KeptBy S, iq.world.cell? ⟨w21.heap.size, 2, none⟩ = some (.slice a2 L.length c2) := by rw [← hSd]; exact fun iq => cell_below iq.ok kb42_0_2
               have gk3 : ∀ iq : KeptBy S, iq.world.cell? ⟨w21.heap.size + 1, 0, none⟩ = some (.int .i64 dp) := by rw [← hSd]; exact fun iq => cell_below iq.ok kb42_1_0
               have gk4 : ∀ iq : KeptBy S, iq.world.cell? ⟨w21.heap.size + 1, 1, none⟩ = some (.int .i64 dq) := by rw [← hSd]; exact fun iq => cell_below iq.ok kb42_1_1
               have gk5 : ∀ iq : KeptBy S, iq.world.cell? ⟨w21.heap.size + 1, 2, none⟩ = some (.slice a3 M.length c3) := by rw [← hSd]; exact fun iq => cell_below iq.ok kb42_1_2
               have gk6 : ∀ iq : KeptBy S, iq.world.cell? ⟨w41.heap.size, 0, none⟩ = some (.int .i64 dp) := by rw [← hSd]; exact fun iq => cell_below iq.ok kb42_2_0
               have gk7 : ∀ iq : KeptBy S, iq.world.cell? ⟨w41.heap.size, 1, none⟩ = some (.int .i64 dq) := by rw [← hSd]; exact fun iq => cell_below iq.ok kb42_2_1
               have gk8 : ∀ iq : KeptBy S, iq.world.cell? ⟨w41.heap.size, 2, none⟩ = some (.slice a8 M.length c8) := by rw [← hSd]; exact fun iq => cell_below iq.ok kb42_2_2
               have gl : ∀ iq : KeptBy S, IsDeeds PL QL iq.world (.slice la X.length lc) X := by rw [← hSd]; exact fun iq => HR42_l.out.below iq.ok zl
               have gt : ∀ iq : KeptBy S, PowTab iq.world := by rw [← hSd]; exact fun iq => HR42_tab.out.below iq.ok zl
               have gp : ∀ iq : KeptBy S, IsPairs Pd Qd iq.world (.slice a2 L.length c2) L := by rw [← hSd]; exact fun iq => HR42_p.out.below iq.ok zl
               have gm : ∀ iq : KeptBy S, IsPairs P1 Q1 iq.world (.slice a3 M.length c3) M := by rw [← hSd]; exact fun iq => HR42_m.out.below iq.ok zl
               have ge : ∀ iq : KeptBy S, IsPairs Pe Qe iq.world (.slice a8 M.length c8) M := by rw [← hSd]; exact fun iq => HR42_e.out.below iq.ok zl
               have gkn : Nonempty (KeptBy S) := ⟨⟨w42.drew, by rw [← hSd]; exact (Below.refl _ _).drew⟩⟩
               go_wp2_with fail
               refine wp_region_kept (S := S) (by rw [← hSd]; exact (Below.refl _ _).drew) (by kernel_rfl) (by kernel_rfl) ?_
               repeat (go_big_quiet_step ((first | (go_at_call 17; refine (HJT.out _ _ _ _ (gl _) (gt _)).mono ?_; rintro e w' ⟨rfl, hhw⟩; exact ⟨rfl, ⟨w', hkeep _ _ (KeptBy.ok _) hhw⟩, rfl⟩) | (go_at_call 13; refine (specOk_is _ _ p q L _ _ (gp _) hn6 true HD.out).mono ?_; rintro e w' ⟨rfl, hhw⟩; exact ⟨rfl, ⟨w', hkeep _ _ (KeptBy.ok _) hhw⟩, rfl⟩) | (go_at_call 19; refine (alive_any _).mono ?_; rintro e w' ⟨rfl, hhw⟩; exact ⟨rfl, ⟨w', hkeep _ _ (KeptBy.ok _) hhw⟩, rfl⟩) | (go_at_call 18; refine (sameDesk_yes _ _ _ _ dp dq _ _ M _ (gm _) (ge _) hMn).mono ?_; rintro e w' ⟨rfl, hhw⟩; exact ⟨rfl, ⟨w', hkeep _ _ (KeptBy.ok _) hhw⟩, rfl⟩) | fail)))
               refine wpQuiet_nil ?_
               rintro wz ⟨iz, hwz⟩
               have bwz : Below w42.heap.size w42 wz := by
                 have this : S wz := by rw [hwz]; exact iz.ok
                 rw [← hSd] at this
                 exact this
               clear hwz iz gkn hkeep hSd gk0 gk1 gk2 gk3 gk4 gk5 gk6 gk7 gk8 gl gt gp gm ge
               have HBE := Lib.hid (HB42.out.trans (bwz.mono zl))
               clear bwz
               go_wp2
               go_ret
               exact ⟨rfl, HBE.out⟩
             · have hzr : runR ⟨(p, q), L⟩ X = (⟨(0, 0), []⟩, 0) := runR_no (fun e => h40 e.2)
               have hRUN := fun (W : World) (B C B' C' : Nat) (a : Option Addr) (c : Nat) (u : Value) (hI : IsPairs B C W (.slice a L.length c) L) (hD : IsDeeds B' C' W u X) => implRun_any B C B' C' p q L X _ u W hI hn6 hD hXn
               unfold RanS at hRUN
               rw [hzr] at hRUN
               dsimp only [List.length_nil] at hRUN
               have HRUN := Lib.hid hRUN
               clear hRUN
               have hg3 : decide ((40 : Int) < (X.length : Int)) = true := by simp; omega
               have h40i : ((40 : Int) < (X.length : Int)) := by omega
               clear hzr hfin HRN hdi
               go_wp2_with fail
               refine (HRUN.out _ _ _ _ _ _ _ _ HRv_p.out HRv_l.out).mono ?_
               rintro e w41 ⟨a8, c8, rfl, hI8, hb41⟩
               obtain ⟨hc41, hf41⟩ := bcell hb41
               have hz41 := hb41.size
               try simp at hz41
               have hN41 : Below wv.heap.size wv w41 := by
                 refine Below.trans ?_ (hb41.mono zo)
                 exact zb
               have hn41 := hN41.size
               have hs41_0 : w21.heap.size < w41.heap.size := by omega
               have hs41_1 : w21.heap.size + 1 < w41.heap.size := by omega
               have kb41_0_0 : w41.cell? ⟨w21.heap.size, 0, none⟩ = some (.int .i64 p) := by go_simp
               have kb41_0_1 : w41.cell? ⟨w21.heap.size, 1, none⟩ = some (.int .i64 q) := by go_simp
               have kb41_0_2 : w41.cell? ⟨w21.heap.size, 2, none⟩ = some (.slice a2 L.length c2) := by go_simp
               have kb41_1_0 : w41.cell? ⟨w21.heap.size + 1, 0, none⟩ = some (.int .i64 dp) := by go_simp
               have kb41_1_1 : w41.cell? ⟨w21.heap.size + 1, 1, none⟩ = some (.int .i64 dq) := by go_simp
               have kb41_1_2 : w41.cell? ⟨w21.heap.size + 1, 2, none⟩ = some (.slice a3 M.length c3) := by go_simp
               have HB41 := Lib.hid (HBv.out.trans (hN41.mono zl))
               have HR41_tab := Lib.hid (HRv_tab.out.below hN41 zl)
               have HR41_err := Lib.hid (HRv_err.out.below hN41 zl)
               have HR41_l := Lib.hid (HRv_l.out.below hN41 zl)
               have HR41_p := Lib.hid (HRv_p.out.below hN41 zl)
               have HR41_m := Lib.hid (HM.out.below hN41 zl)
               clear hc41 hf41 hb41 hN41 hz41
               clear hI8
               go_wp2_with fail
               refine region_namedD ?_
               intro w42 hw42
               have hN42 : Below w41.heap.size w41 w42 := by
                 rw [hw42]
                 exact zb
               have hz42 : w42.heap.size = _ := congrArg (fun W : World => W.heap.size) hw42
               try simp at hz42
               have hn42 := hN42.size
               have hs42_0 : w21.heap.size < w42.heap.size := by omega
               have hs42_1 : w21.heap.size + 1 < w42.heap.size := by omega
               have hs42_2 : w41.heap.size < w42.heap.size := by omega
               have kb42_0_0 : w42.cell? ⟨w21.heap.size, 0, none⟩ = some (.int .i64 p) := by rw [hw42]; go_simp
               have kb42_0_1 : w42.cell? ⟨w21.heap.size, 1, none⟩ = some (.int .i64 q) := by rw [hw42]; go_simp
               have kb42_0_2 : w42.cell? ⟨w21.heap.size, 2, none⟩ = some (.slice a2 L.length c2) := by rw [hw42]; go_simp
               have kb42_1_0 : w42.cell? ⟨w21.heap.size + 1, 0, none⟩ = some (.int .i64 dp) := by rw [hw42]; go_simp
               have kb42_1_1 : w42.cell? ⟨w21.heap.size + 1, 1, none⟩ = some (.int .i64 dq) := by rw [hw42]; go_simp
               have kb42_1_2 : w42.cell? ⟨w21.heap.size + 1, 2, none⟩ = some (.slice a3 M.length c3) := by rw [hw42]; go_simp
               have kb42_2_0 : w42.cell? ⟨w41.heap.size, 0, none⟩ = some (.int .i64 0) := by rw [hw42]; go_simp
               have kb42_2_1 : w42.cell? ⟨w41.heap.size, 1, none⟩ = some (.int .i64 0) := by rw [hw42]; go_simp
               have kb42_2_2 : w42.cell? ⟨w41.heap.size, 2, none⟩ = some (.slice a8 0 c8) := by rw [hw42]; go_simp
               have HB42 := Lib.hid (HB41.out.trans (hN42.mono zl))
               have HR42_tab := Lib.hid (HR41_tab.out.below hN42 zl)
               have HR42_err := Lib.hid (HR41_err.out.below hN42 zl)
               have HR42_l := Lib.hid (HR41_l.out.below hN42 zl)
               have HR42_p := Lib.hid (HR41_p.out.below hN42 zl)
               have HR42_m := Lib.hid (HR41_m.out.below hN42 zl)
               have hwz := hn42
               clear hw42 hN42 hz42
               obtain ⟨S, hSd⟩ : ∃ S : World → Prop, (fun V => Below w42.heap.size w42 V) = S := ⟨_, rfl⟩
               have hkeep : ∀ V V' : World, S V → Below V.heap.size V V' → S V' := by rw [← hSd]; exact fun V V' h hb => h.trans (hb.mono h.size)
               have gk0 : ∀ iq : KeptBy S, iq.world.cell? ⟨w21.heap.size, 0, none⟩ = some (.int .i64 p) := by rw [← hSd]; exact fun iq => cell_below iq.ok kb42_0_0
               have gk1 : ∀ iq : KeptBy S, iq.world.cell? ⟨w21.heap.size, 1, none⟩ = some (.int .i64 q) := by rw [← hSd]; exact fun iq => cell_below iq.ok kb42_0_1
               have gk2 : ∀ iq : KeptBy S, iq.world.cell? ⟨w21.heap.size, 2, none⟩ = some (.slice a2 L.length c2) := by rw [← hSd]; exact fun iq => cell_below iq.ok kb42_0_2
               have gl : ∀ iq : KeptBy S, IsDeeds PL QL iq.world (.slice la X.length lc) X := by rw [← hSd]; exact fun iq => HR42_l.out.below iq.ok zl
               have gt : ∀ iq : KeptBy S, PowTab iq.world := by rw [← hSd]; exact fun iq => HR42_tab.out.below iq.ok zl
               have gp : ∀ iq : KeptBy S, IsPairs Pd Qd iq.world (.slice a2 L.length c2) L := by rw [← hSd]; exact fun iq => HR42_p.out.below iq.ok zl
               have gkn : Nonempty (KeptBy S) := ⟨⟨w42.drew, by rw [← hSd]; exact (Below.refl _ _).drew⟩⟩
               go_wp2_with fail
               refine wp_region_kept (S := S) (by rw [← hSd]; exact (Below.refl _ _).drew) (by kernel_rfl) (by kernel_rfl) ?_
               repeat (go_big_quiet_step ((first | (go_at_call 17; refine (HJT.out _ _ _ _ (gl _) (gt _)).mono ?_; rintro e w' ⟨rfl, hhw⟩; exact ⟨rfl, ⟨w', hkeep _ _ (KeptBy.ok _) hhw⟩, rfl⟩) | (go_at_call 13; refine (specOk_is _ _ p q L _ _ (gp _) hn6 true HD.out).mono ?_; rintro e w' ⟨rfl, hhw⟩; exact ⟨rfl, ⟨w', hkeep _ _ (KeptBy.ok _) hhw⟩, rfl⟩) | (go_at_call 19; refine (alive_any _).mono ?_; rintro e w' ⟨rfl, hhw⟩; exact ⟨rfl, ⟨w', hkeep _ _ (KeptBy.ok _) hhw⟩, rfl⟩) | fail)))
               refine wpQuiet_nil ?_
               rintro wz ⟨iz, hwz⟩
               have bwz : Below w42.heap.size w42 wz := by
                 have this : S wz := by rw [hwz]; exact iz.ok
                 rw [← hSd] at this
                 exact this
               clear hwz iz gkn hkeep hSd gk0 gk1 gk2 gl gt gp
               have HBE := Lib.hid (HB42.out.trans (bwz.mono zl))
               clear bwz
               go_wp2
               go_ret
               exact ⟨rfl, HBE.out⟩
end
end Go.Proofs.YtblphilcmfabkaaGreatDoor
