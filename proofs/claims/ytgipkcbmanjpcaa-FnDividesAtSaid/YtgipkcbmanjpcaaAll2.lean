/- Contracts and laws that the statement's proof stands on, one text behind the other. -/
import Derived.Test.YtgipkcbmanjpcaaAll1
import Derived.Test.YtgipkcbmanjpcaaHvRankParts
import Derived.Test.YtgipkcbmanjpcaaHvRankDraws
import Derived.Maps.OwnIn

namespace Go.Proofs.Ytgipkcbmanjpcaa
open Go.RowKit Go.Shelf
open Go.Maps (Keyed)
attribute [local go_sem] Oper.semAt_some
theorem intKeyed : Keyed Try.prog 3 := Maps.int_keyed Try.underlying3
theorem intZero (w : World) : (zeroValue 3).run Try.prog w = .ok (.int .i64 0) w := by kernel_rfl
theorem wf_nat {j : Nat} (h : j ≤ 1000000000) : (Lit.int .i64 (j : Int)).wf = true := WalkArith.wf_i64 (by omega)
theorem intKey {j : Nat} (h : j ≤ 1000000000) : keyOf Try.prog 3 (.int .i64 (j : Int)) = some (.int .i64 (j : Int)) := Maps.keyOf_int_mk Try.underlying3 (wf_nat h)
theorem intElem {j : Nat} (h : j ≤ 1000000000) : plainElem (H := Unit) Try.prog 3 (.int .i64 (j : Int)) = some (.lit (.int .i64 (j : Int)), []) := plainElem_int Try.underlying3 (wf_nat h)
/-- What is remembered is right. -/
def MemoOk (p q : Int) (D : DataW Unit) : Prop := ∀ j : Nat, Maps.has D (.int .i64 (j : Int)) = true → D.atKey (.int .i64 (j : Int)) (.lit (.int .i64 0)) = .lit (.int .i64 (rankN p q j : Nat))
theorem MemoOk.empty (p q : Int) : MemoOk p q (.map []) := fun j h => by cases h
theorem MemoOk.put {p q : Int} {D : DataW Unit} (h : MemoOk p q D) (hD : Maps.IsMap D) (j : Nat) : MemoOk p q (D.put (.int .i64 (j : Int)) (.lit (.int .i64 (rankN p q j : Nat)))) := by
  intro i hi
  by_cases he : i = j
  · subst he
    exact Maps.atKey_put_same hD (show WideAt.IsKeyLit (Lit.int .i64 (i : Int)) from trivial) _ _
  · have hne : (Lit.int .i64 (i : Int)) ≠ (Lit.int .i64 (j : Int)) := fun e => he (by injection e with _ e; omega)
    rw [Maps.has_put_other hne] at hi
    rw [Maps.atKey_put_other hne]
    exact h i hi
/-- What the closure holds: the box of the map, that of the pair; the map's block, of at most n entries. -/
def Memo (p q : Int) (K B b n : Nat) (W : World) : Prop :=
  (W.cell? ⟨K, 0, none⟩ = some (.map (some b)) ∧ W.cell? ⟨B, 0, none⟩ = some (.int .i64 p) ∧ W.cell? ⟨B, 1, none⟩ = some (.int .i64 q)) ∧
  ∃ D : DataW Unit, MemoOk p q D ∧ W.ownsMap Try.prog 3 (plainElem Try.prog 3) b n D
theorem grown_below {W W' : World} (h : Below W.heap.size W W') : W.grownBy W' none := ⟨h.os, h.tape, h.output, h.size, fun j hj _ => h.block j hj⟩
theorem Memo.below {p q : Int} {K B b n : Nat} {W W' : World} (h : Memo p q K B b n W) (hb : Below W.heap.size W W') : Memo p q K B b n W' := by
  obtain ⟨⟨x1, x2, x3⟩, D, x4, x5⟩ := h
  exact ⟨⟨cell_below hb x1, cell_below hb x2, cell_below hb x3⟩, D, x4, x5.kept (grown_below hb) (fun e => by cases e)⟩
theorem Memo.kept {p q : Int} {K B b n : Nat} {A V : World} {row : Option Nat} (h : Memo p q K B b n A) (hg : A.grownBy V row) (hr : ∀ r, row = some r → ∃ o : Obj, A.heap[r]? = some o ∧ o.isCells = false) (hne : some b ≠ row) : Memo p q K B b n V := by
  obtain ⟨⟨x1, x2, x3⟩, D, x4, x5⟩ := h
  exact ⟨⟨cell_kept x1 hg hr, cell_kept x2 hg hr, cell_kept x3 hg hr⟩, D, x4, x5.kept hg hne⟩
theorem Memo.set {p q : Int} {K B b n : Nat} {W : World} (h : Memo p q K B b n W) {S : Nat} (h1 : K < S) (h2 : B < S) (h3 : b < S) (o : Nat) (v : Value) : Memo p q K B b n (W.setCell ⟨S, o, none⟩ v) := by
  obtain ⟨⟨x1, x2, x3⟩, D, x4, x5⟩ := h
  exact ⟨⟨(set_other (by omega)).trans x1, (set_other (by omega)).trans x2, (set_other (by omega)).trans x3⟩, D, x4, x5.setCell (a := ⟨S, o, none⟩) (by show b ≠ S; omega) v⟩
theorem Memo.mono {p q : Int} {K B b n n' : Nat} {W : World} (h : Memo p q K B b n W) (hn : n ≤ n') : Memo p q K B b n' W := by
  obtain ⟨x0, D, x4, x5⟩ := h
  exact ⟨x0, D, x4, x5.mono hn⟩
theorem Memo.lt {p q : Int} {K B b n : Nat} {W : World} (h : Memo p q K B b n W) : K < W.heap.size ∧ B < W.heap.size ∧ b < W.heap.size := by
  obtain ⟨⟨x1, x2, x3⟩, D, x4, x5⟩ := h
  exact ⟨World.block_lt_of_cell? _ _ x1, World.block_lt_of_cell? _ _ x2, x5.lt⟩
theorem Memo.isMap {p q : Int} {K B b n : Nat} {W : World} (h : Memo p q K B b n W) : ∃ es c, W.heap[b]? = some (.map es c) := by
  obtain ⟨_, D, _, es, c, hb, _⟩ := h
  exact ⟨es, c, hb⟩
theorem cells_map {w : World} {x b : Nat} {o : Nat} {v : Value} (h : w.cell? ⟨x, o, none⟩ = some v) {es : Array MapEntry} {c : Nat} (hb : w.heap[b]? = some (.map es c)) : some x ≠ some b := by
  intro e
  injection e with e
  subst e
  simp [World.cell?, hb] at h
theorem length_prodL : ∀ L : List Nat, (∀ x ∈ L, 2 ≤ x) → L.length + 1 ≤ prodL L
  | [], _ => Nat.le_refl 1
  | x :: L, h => by
    have h1 := length_prodL L (fun y hy => h y (List.mem_cons_of_mem _ hy))
    have h2 := Nat.mul_le_mul (h x (List.mem_cons_self ..)) h1
    simp only [List.length_cons, prodL]
    omega
theorem ppL_len {n : Nat} (hn : 1 ≤ n) : (ppL n).length < n := by
  obtain ⟨a, b, _⟩ := ppL_spec hn
  have := length_prodL _ b
  omega
set_option maxHeartbeats 1000000 in
theorem ranksBy_any (p q : Int) (w : World) :
    Calls Try.prog 36 #[pr p q] w fun e w' => e = .returned (.func (.func 52) #[] #[.pointer (some ⟨w.heap.size + 1 + 1, 0, none⟩), .pointer (some ⟨w.heap.size, 0, none⟩)]) ∧ Memo p q (w.heap.size + 1 + 1) w.heap.size (w.heap.size + 1) 0 w' ∧ Below w.heap.size w w' := by
  have hmf : ∀ (fn : Fn) (first cap : Array Value) (w : World), (Instr.makeFunc fn first cap).run Try.prog w = .ok (.func fn first cap) w := fun _ _ _ _ => rfl
  have hmm := @run_makeMap Try.prog
  have hO := World.ownsMap_made (H := Unit) (w.alloc (.cells #[.int .i64 p, .int .i64 q] 24)) Try.prog 3 (plainElem Try.prog 3)
  rw [World.size_alloc] at hO
  have HO := Lib.hid hO
  clear hO
  go_enter Try.func36, Try.ntmps36
  go_wp2
  go_ret
  refine ⟨rfl, ⟨⟨by go_simp, by go_simp, by go_simp⟩, _, MemoOk.empty p q, ?_⟩, by (repeat (first | exact Below.refl _ _ | refine Below.setCell ?_ (by first | omega | (simp <;> omega)) _ | refine Below.alloc ?_ (by first | omega | (simp <;> omega)) _ | refine Below.drew ?_ | refine Below.trans ?_ (Below.mono (by assumption) (by first | omega | (simp <;> omega))) | refine Below.grown ?_ (by assumption) (by first | omega | (simp <;> omega)) (fun k e => by cases e; first | omega | (simp <;> omega))))⟩
  exact HO.out.alloc _
end Go.Proofs.Ytgipkcbmanjpcaa
namespace Go.Proofs.Ytgipkcbmanjpcaa
open Go.RowKit Go.Shelf
attribute [local go_sem] Oper.semAt_some
theorem wide_asks (k : FuncId) : Fence.wide.fn k = True := rfl
attribute [local go_sem] wide_asks
/-- A box that holds a number. -/
def NumBox (S : Nat) (v : Int) (W : World) : Prop := W.cell? ⟨S, 0, none⟩ = some (.int .i64 v) ∧ W.frozen? ⟨S, 0, none⟩ = false
theorem NumBox.below {S : Nat} {v : Int} {W W' : World} (h : NumBox S v W) (hb : Below W.heap.size W W') : NumBox S v W' := ⟨cell_below hb h.1, frozen_below hb h.1 h.2⟩
theorem NumBox.kept {S : Nat} {v : Int} {A V : World} {row : Option Nat} (h : NumBox S v A) (hg : A.grownBy V row) (hr : ∀ r, row = some r → ∃ o : Obj, A.heap[r]? = some o ∧ o.isCells = false) : NumBox S v V := ⟨cell_kept h.1 hg hr, (frozen_kept h.1 hg hr).trans h.2⟩
theorem NumBox.set {S : Nat} {v : Int} {W : World} (h : NumBox S v W) (u : Int) : NumBox S u (W.setCell ⟨S, 0, none⟩ (.int .i64 u)) := ⟨set_same h.1, set_frozen h.2⟩
theorem grown_num {w W : World} {b S : Nat} (h : w.grownBy W (some b)) (hS : w.heap.size ≤ S) (o : Nat) (v : Value) : w.grownBy (W.setCell ⟨S, o, none⟩ v) (some b) :=
  h.andThen (grown_set (gr_refl W S) o v) (fun j e => by injection e with e; subst e; exact .inl hS)
theorem grown_then {w W W' : World} {b : Nat} (h : w.grownBy W (some b)) (hb : Below W.heap.size W W') : w.grownBy W' (some b) := h.andThen (grown_below hb) (fun j e => by cases e)
set_option maxRecDepth 100000 in
set_option maxHeartbeats 8000000 in
theorem ranksFn_at (p q : Int) (j K B b n : Nat) (w : World) (hr : rankB p q j = true) (hm : Memo p q K B b n w) (hn : n ≤ 1000000) :
    Calls Try.prog 52 #[.int .i64 j, .pointer (some ⟨K, 0, none⟩), .pointer (some ⟨B, 0, none⟩)] w fun e w' => e = .returned (.int .i64 (rankN p q j : Nat)) ∧ Memo p q K B b (n + 400) w' ∧ w.grownBy w' (some b) := by
  obtain ⟨hp, _, _, _, k, hk, j1, j2, ha⟩ := rankB_true hr
  obtain rfl : j = k := by omega
  clear hr hk
  have hlt := hm.lt
  have hlen := ppL_len j1
  have HP := Lib.hid hp
  have HA := Lib.hid ha
  clear hp
  refine (callsIn_wide (n := 9)).1 ?_
  refine callsIn_of_wp_marks Try.func52 rfl trivial ?_ rfl
  simp only [Try.ntmps52, List.size_toArray, List.length_cons, List.length_nil, Nat.reduceAdd, Nat.reduceSub, Array.replicate_succ, Array.replicate_zero, List.push_toArray, List.append_toArray, List.nil_append, List.cons_append]
  gi_wp2_with fail
  refine (callsIn_wide.2 (primePowers_any j _)).mono ?_
  rintro e w1 ⟨rfl, rfl⟩
  gi_wp2_with fail
  refine wpIn_rangeFunc_counted_map (P := Try.prog) rfl (by omega) (gf := 63) (lb := #[.pointer (some ⟨w.heap.size + 1, 0, none⟩)]) rfl trivial (enters_of Try.func63 (by kernel_rfl) rfl)
    (primePowers_counted 8 (by omega) j (w.heap.size + 1) _ j1 (by omega)) (Below.refl _ _) (fun _ => rfl)
    (fun k W => Memo p q K B b (n + k) W ∧ NumBox w.heap.size (rankN p q (ppK j k) : Nat) W ∧ W.cell? ⟨w.heap.size + 1, 0, none⟩ = some (.int .i64 j) ∧ w.grownBy W (some b))
    (fun _ _ _ => False) ?own (fun _ _ _ _ _ h _ _ => h) (fun _ _ h => h.2.2.1) ?start
    (fun k => { tmps := #[.int .i64 j, .pointer (some ⟨K, 0, none⟩), .pointer (some ⟨B, 0, none⟩), undef, .int .i64 0, .pointer (some ⟨w.heap.size, 0, none⟩), .int .i64 ((ppL j).getD k 0 : Nat), undef, undef, .int .i64 j, .func (.func 63) #[] #[.pointer (some ⟨w.heap.size + 1, 0, none⟩)], .int .i64 ((ppL j).getD k 0 : Nat), undef, undef, undef, undef, undef, undef, undef, undef, undef, undef, undef, undef, undef, undef, undef, undef, undef, undef, undef], defers := [] })
    ?assign ?body ?done (fun _ _ _ _ _ _ h _ => h.elim)
  case own =>
    rintro k A V row ⟨x0, x1, x2, x3⟩ hg hr
    have hr' := fun r e => (hr r e).2
    have hge : ∀ r, row = some r → w.heap.size + 1 + 1 ≤ r := fun r e => by have := (hr r e).1; simpa using this
    exact ⟨x0.kept hg hr' (fun e => by have := hge b e.symm; omega), x1.kept hg hr', cell_kept x2 hg hr', x3.andThen hg (fun r e => .inl (by have := hge r e; omega))⟩
  case start =>
    have hL : Below w.heap.size w ((w.alloc (.cells #[.int .i64 1] 3)).alloc (.cells #[.int .i64 (j : Int)] 3)) := by
      (repeat (first | exact Below.refl _ _ | refine Below.setCell ?_ (by first | omega | (simp <;> omega)) _ | refine Below.alloc ?_ (by first | omega | (simp <;> omega)) _ | refine Below.drew ?_ | refine Below.trans ?_ (Below.mono (by assumption) (by first | omega | (simp <;> omega))) | refine Below.grown ?_ (by assumption) (by first | omega | (simp <;> omega)) (fun k e => by cases e; first | omega | (simp <;> omega))))
    refine ⟨hm.below hL, ⟨?_, ?_⟩, ?_, (grown_below hL).but _⟩
    · rw [ppK_zero, rankN_one]; go_simp
    · go_simp
    · go_simp
  case assign =>
    intro l k W K hK
    gi_wp2
    exact hK
  case body =>
    rintro l k W hk ⟨hmW, hbx, hmb, hgW⟩
    obtain ⟨s1, s2, s3, s4, s5, s6⟩ := pp_step j1 hk
    have HRK := Lib.hid (rank_pp (p := p) j1 HA.out hk)
    have hxj : (ppL j).getD k 0 ≤ j := Nat.le_of_dvd j1 s4
    have hKj : ppK j k ≤ j := Nat.le_of_dvd j1 s6
    have hK1 : 1 ≤ ppK j k := Nat.pos_of_dvd_of_pos s6 j1
    obtain ⟨R1, R2⟩ := rank_bd (p := p) hK1 (by omega) (HA.out.of_nat_dvd s6)
    obtain ⟨Y1, Y2⟩ := rank_bd (p := p) (show 1 ≤ (ppL j).getD k 0 by omega) (by omega) (HA.out.of_nat_dvd s4)
    have HAX := Lib.hid (HA.out.of_nat_dvd s4)
    clear s1 s2 s4 s5 s6
    try dsimp only
    obtain ⟨x, hx⟩ : ∃ x, (ppL j).getD k 0 = x := ⟨_, rfl⟩
    rw [hx] at HRK hxj Y1 Y2 HAX s3 ⊢
    obtain ⟨R, hR⟩ : ∃ R, rankN p q (ppK j k) = R := ⟨_, rfl⟩
    rw [hR] at HRK R1 R2 hbx
    have HL := Lib.hid (show ((Nat.lcm R (rankN p q x) : Nat) : Int) = (rankN p q (ppK j (k + 1)) : Nat) by rw [HRK.out])
    have hx9 : x ≤ 1000000000 := by omega
    have hsz := hgW.size
    have HM := Lib.hid hmW
    have HX := Lib.hid hbx
    have HG := Lib.hid hgW
    have HJ := Lib.hid hmb
    obtain ⟨⟨x1, x2, x3⟩, D, x4, x5⟩ := hmW
    obtain ⟨y1, y2⟩ := hbx
    clear hgW hmb HRK hx hR hKj hK1
    gi_wp2_with (gi_at_lookup; refine wpListIn_lookup_own_ok_int _ rfl _ _ 66 rfl 3 3 .i64 intKeyed Try.underlying66 Try.underlying3 (intZero _) b _ D rfl x5 _ _ rfl (intKey hx9) ?_)
    intro c hat hwc
    clear hat hwc
    cases hh : Maps.has D (.int .i64 (x : Int)) with
    | true =>
      gi_wp2_with (gi_at_lookup; refine wpListIn_lookup_own_int _ rfl _ _ 66 rfl 3 3 .i64 intKeyed Try.underlying66 Try.underlying3 (intZero _) b _ D rfl x5 _ _ rfl (intKey hx9) ?_)
      intro c2 hat2 hwc2
      rw [x4 x hh] at hat2
      injection hat2 with hat2
      injection hat2 with _ hat2
      subst hat2
      gi_wp2_with fail
      refine (CallsIn.inRound l (callsIn_wide.2 (leastMultiple_at _ _ _ _ R1 Y1 (by omega) (by omega) HL.out))).mono ?_
      rintro e w7 ⟨rfl, hh7⟩
      have z1 := cell_below hh7 y1
      have z2 := frozen_below hh7 y1 y2
      have HH7 := Lib.hid hh7
      clear hh7 x1 x2 x3 y1 y2
      gi_wp2
      refine ⟨keepsOthers_recs ((keepsOthers_below HH7.out).trans (KeepsOthers.setCell _ _ _)), ((HM.out.below HH7.out).set hlt.1 hlt.2.1 hlt.2.2 _ _).mono (by omega), (HX.out.below HH7.out).set _, (set_other (by omega)).trans (cell_below HH7.out HJ.out), grown_num (grown_then HG.out HH7.out) (Nat.le_refl _) _ _⟩
    | false =>
      obtain ⟨S, hSd⟩ : ∃ S : World → Prop, (fun V => Below W.heap.size W V) = S := ⟨_, rfl⟩
      have hkeep : ∀ V V' : World, S V → Below V.heap.size V V' → S V' := by rw [← hSd]; exact fun V V' h hb => h.trans (hb.mono h.size)
      have g1 : ∀ i : KeptBy S, i.world.cell? ⟨K, 0, none⟩ = some (.map (some b)) := by rw [← hSd]; exact fun i => cell_below i.ok x1
      have g2 : ∀ i : KeptBy S, i.world.cell? ⟨B, 0, none⟩ = some (.int .i64 p) := by rw [← hSd]; exact fun i => cell_below i.ok x2
      have g3 : ∀ i : KeptBy S, i.world.cell? ⟨B, 1, none⟩ = some (.int .i64 q) := by rw [← hSd]; exact fun i => cell_below i.ok x3
      have g5 : Nonempty (KeptBy S) := ⟨⟨W.drew, by rw [← hSd]; exact (Below.refl _ _).drew⟩⟩
      gi_wp2_with fail
      refine wpIn_region_last_at (S := S) 5 rfl (by rw [← hSd]; exact (Below.refl _ _).drew) rfl (by kernel_rfl) (by kernel_rfl) (by kernel_rfl) (by kernel_rfl) rfl ?_
      simp only [List.take_succ_cons, List.take_zero, List.cons_append, List.nil_append, idle]
      repeat (gi_big_quiet_step ((first | (gi_at_call 54; refine (callsIn_wide.2 (firstNought_at p q x _ HP.out (by omega) (by omega) HAX.out)).mono ?_; rintro e w' ⟨rfl, hhw⟩; exact ⟨rfl, ⟨w', hkeep _ _ (KeptBy.ok _) hhw⟩, rfl⟩) | fail)))
      refine wpQuietIn_nil ?_
      intro z hz
      rw [← hSd] at hz
      have bz : Below W.heap.size W z := hz
      clear hz g1 g2 g3 g5 hkeep hSd
      gi_at_mapUpdate
      refine wpListIn_mapUpdate_own _ rfl _ _ _ 66 rfl 3 3 intKeyed Try.underlying66 _ b (n + k) D rfl (x5.kept (grown_below bz) (fun e => by cases e)) (by unfold maxLen; omega) _ _ _ rfl rfl (intKey hx9) _ [] (intElem (j := rankN p q x) (by omega)) ?_
      intro w4 hown4 hgrow4
      have hmz := (HM.out.below bz).isMap
      obtain ⟨es, c9, hes⟩ := hmz
      have u1 : w4.cell? ⟨K, 0, none⟩ = some (.map (some b)) := hgrow4.cell (cell_below bz x1) (cells_map (cell_below bz x1) hes)
      have u2 : w4.cell? ⟨B, 0, none⟩ = some (.int .i64 p) := hgrow4.cell (cell_below bz x2) (cells_map (cell_below bz x2) hes)
      have u3 : w4.cell? ⟨B, 1, none⟩ = some (.int .i64 q) := hgrow4.cell (cell_below bz x3) (cells_map (cell_below bz x3) hes)
      have v1 : w4.cell? ⟨w.heap.size, 0, none⟩ = some (.int .i64 R) := hgrow4.cell (cell_below bz y1) (cells_map (cell_below bz y1) hes)
      have v2 : w4.frozen? ⟨w.heap.size, 0, none⟩ = false := (hgrow4.frozen_far ⟨w.heap.size, 0, none⟩ (World.block_lt_of_cell? _ _ (cell_below bz y1)) (cells_map (cell_below bz y1) hes)).trans (frozen_below bz y1 y2)
      have v3 : w4.cell? ⟨w.heap.size + 1, 0, none⟩ = some (.int .i64 j) := hgrow4.cell (cell_below bz HJ.out) (cells_map (cell_below bz HJ.out) hes)
      have ok4 := x4.put x5.isMap x
      have has4 : Maps.has (D.put (.int .i64 (x : Int)) (.lit (.int .i64 (rankN p q x : Nat)))) (.int .i64 (x : Int)) = true := Maps.has_put_same x5.isMap (show WideAt.IsKeyLit (Lit.int .i64 (x : Int)) from trivial) _
      have HM4 := Lib.hid (show Memo p q K B b (n + k + 1) w4 from ⟨⟨u1, u2, u3⟩, _, ok4, hown4⟩)
      have HG4 := Lib.hid ((grown_then HG.out bz).trans hgrow4)
      have HK4 := Lib.hid ((keepsOthers_recs (keepsOthers_below bz)).trans (KeepsRecs.map hgrow4 ⟨es, c9, hes⟩))
      have V3 := Lib.hid v3
      clear hgrow4 bz x1 x2 x3 y1 y2 u2 u3 hes x5 v3
      gi_wp2_with (gi_at_lookup; refine wpListIn_lookup_own_int _ rfl _ _ 66 rfl 3 3 .i64 intKeyed Try.underlying66 Try.underlying3 (intZero _) b _ _ rfl hown4 _ _ rfl (intKey hx9) ?_)
      intro c2 hat2 hwc2
      rw [ok4 x has4] at hat2
      injection hat2 with hat2
      injection hat2 with _ hat2
      subst hat2
      gi_wp2_with fail
      refine (CallsIn.inRound l (callsIn_wide.2 (leastMultiple_at _ _ _ _ R1 Y1 (by omega) (by omega) HL.out))).mono ?_
      rintro e w7 ⟨rfl, hh7⟩
      have z1 := cell_below hh7 v1
      have z2 := frozen_below hh7 v1 v2
      have HH7 := Lib.hid hh7
      have VB := Lib.hid (show NumBox w.heap.size R w4 from ⟨v1, v2⟩)
      clear hh7 u1 v1 v2
      gi_wp2
      refine ⟨HK4.out.trans (keepsOthers_recs ((keepsOthers_below HH7.out).trans (KeepsOthers.setCell _ _ _))), ((HM4.out.below HH7.out).set hlt.1 hlt.2.1 hlt.2.2 _ _).mono (by omega), (VB.out.below HH7.out).set _, (set_other (by omega)).trans (cell_below HH7.out V3.out), grown_num (grown_then HG4.out HH7.out) (Nat.le_refl _) _ _⟩
  case done =>
    rintro E W hE ⟨hmW, hbx, hmb, hgW⟩ hK
    rw [ppK_all j1] at hbx
    have HM := Lib.hid hmW
    have HG := Lib.hid hgW
    have HK := Lib.hid hK
    have HE := Lib.hid hE
    obtain ⟨y1, y2⟩ := hbx
    clear hmW hgW hK hE hmb
    gi_wp2
    refine ⟨by simp, .inl ⟨_, _, rfl, run_takeDeferred HK.out, ?_⟩⟩
    have hE' : w.heap.size + 1 + 1 ≤ E := by have := HE.out; simpa using this
    exact ⟨_, by simp [results, Try.results52, go_sem], rfl, (HM.out.kept (grownBy_putObj' _ E (.deferred none)) (fun r e => by cases e; exact ⟨_, HK.out, rfl⟩) (fun e => by injection e with e; omega)).mono (by omega), HG.out.andThen (grownBy_putObj' _ E (.deferred none)) (fun r e => by cases e; exact .inl (by omega))⟩
end Go.Proofs.Ytgipkcbmanjpcaa
namespace Go.Proofs.Ytgipkcbmanjpcaa
open Go.RowKit
theorem Memo.far {p q : Int} {K B b n : Nat} {A V : World} {row : Option Nat} (h : Memo p q K B b n A) (hg : A.grownBy V row) (h1 : some K ≠ row) (h2 : some B ≠ row) (h3 : some b ≠ row) : Memo p q K B b n V := by
  obtain ⟨⟨x1, x2, x3⟩, D, x4, x5⟩ := h
  exact ⟨⟨hg.cell x1 h1, hg.cell x2 h2, hg.cell x3 h2⟩, D, x4, x5.kept hg h3⟩
set_option maxHeartbeats 2000000 in
theorem implRank_any (p q m : Int) (w : World) : Calls Try.prog 12 #[pr p q, .int .i64 m] w fun e w' => e = .returned (.tuple #[.int .i64 (rankV p q m), .bool (rankB p q m)]) ∧ Below w.heap.size w w' := by
  cases h : rankB p q m with
  | false =>
    have HB := Lib.hid h
    have HV := Lib.hid (show rankV p q m = -1 by rw [rankV, if_neg (by simp [h])])
    clear h
    go_enter Try.func12, Try.ntmps12
    go_wp2_with fail
    refine (rankedOk_is p q m false _ HB.out).mono ?_
    rintro e w1 ⟨rfl, hh1⟩
    obtain ⟨hc1, hf1⟩ := bcell hh1
    have hz1 := hh1.size
    try simp only [World.size_alloc] at hz1
    have hz1_0 : w.heap.size < w1.heap.size := by omega
    have kb1_0_0 : w1.cell? ⟨w.heap.size, 0, none⟩ = some (.int .i64 p) := by go_simp
    have kf1_0_0 : w1.frozen? ⟨w.heap.size, 0, none⟩ = false := by go_simp
    have kb1_0_1 : w1.cell? ⟨w.heap.size, 1, none⟩ = some (.int .i64 q) := by go_simp
    have kf1_0_1 : w1.frozen? ⟨w.heap.size, 1, none⟩ = false := by go_simp
    clear hc1 hf1
    go_wp2
    go_ret2
    exact ⟨ret_int_bool HV.out.symm rfl, by (repeat (first | exact Below.refl _ _ | refine Below.setCell ?_ (by first | omega | (simp <;> omega)) _ | refine Below.alloc ?_ (by first | omega | (simp <;> omega)) _ | refine Below.drew ?_ | refine Below.trans ?_ (Below.mono (by assumption) (by first | omega | (simp <;> omega))) | refine Below.grown ?_ (by assumption) (by first | omega | (simp <;> omega)) (fun k e => by cases e; first | omega | (simp <;> omega))))⟩
  | true =>
    obtain ⟨_, _, _, _, k, rfl, _, _, _⟩ := rankB_true h
    have HB := Lib.hid h
    have HV := Lib.hid (rankV_is h)
    clear h
    go_enter Try.func12, Try.ntmps12
    go_wp2_with fail
    refine (rankedOk_is p q k true _ HB.out).mono ?_
    rintro e w1 ⟨rfl, hh1⟩
    obtain ⟨hc1, hf1⟩ := bcell hh1
    have hz1 := hh1.size
    try simp only [World.size_alloc] at hz1
    have hz1_0 : w.heap.size < w1.heap.size := by omega
    have kb1_0_0 : w1.cell? ⟨w.heap.size, 0, none⟩ = some (.int .i64 p) := by go_simp
    have kf1_0_0 : w1.frozen? ⟨w.heap.size, 0, none⟩ = false := by go_simp
    have kb1_0_1 : w1.cell? ⟨w.heap.size, 1, none⟩ = some (.int .i64 q) := by go_simp
    have kf1_0_1 : w1.frozen? ⟨w.heap.size, 1, none⟩ = false := by go_simp
    clear hc1 hf1
    go_wp2_with fail
    refine (ranksBy_any p q _).mono ?_
    rintro e w2 ⟨rfl, hm2, hh2⟩
    obtain ⟨hc2, hf2⟩ := bcell hh2
    have hz2 := hh2.size
    try simp only [World.size_alloc] at hz2
    go_wp2_with fail
    refine (ranksFn_at p q k _ _ _ 0 _ HB.out hm2 (by omega)).mono ?_
    rintro e w3 ⟨rfl, _, hg3⟩
    go_wp2
    go_ret2
    exact ⟨ret_int_bool HV.out.symm rfl, by (repeat (first | exact Below.refl _ _ | refine Below.setCell ?_ (by first | omega | (simp <;> omega)) _ | refine Below.alloc ?_ (by first | omega | (simp <;> omega)) _ | refine Below.drew ?_ | refine Below.trans ?_ (Below.mono (by assumption) (by first | omega | (simp <;> omega))) | refine Below.grown ?_ (by assumption) (by first | omega | (simp <;> omega)) (fun k e => by cases e; first | omega | (simp <;> omega))))⟩
theorem implRank_val (p q m v : Int) (c : Bool) (w : World) (hv : rankV p q m = v) (hc : rankB p q m = c) : Calls Try.prog 12 #[pr p q, .int .i64 m] w fun e w' => e = .returned (.tuple #[.int .i64 v, .bool c]) ∧ Below w.heap.size w w' := by rw [← hv, ← hc]; exact implRank_any p q m w
set_option maxHeartbeats 4000000 in
theorem implDivides_any (p q m n : Int) (w : World) : Calls Try.prog 18 #[pr p q, .int .i64 m, .int .i64 n] w fun e w' => e = .returned (.bool (dividesB p q m n)) ∧ Below w.heap.size w w' := by
  cases h : rankB p q m with
  | false =>
    have HV := Lib.hid (show dividesB p q m n = false by simp [dividesB, h])
    have HB := Lib.hid h
    clear h
    go_enter Try.func18, Try.ntmps18
    go_wp2_with fail
    refine (implRank_val p q m _ false _ rfl HB.out).mono ?_
    rintro e w1 ⟨rfl, hh1⟩
    obtain ⟨hc1, hf1⟩ := bcell hh1
    have hz1 := hh1.size
    try simp only [World.size_alloc] at hz1
    go_wp2
    go_ret
    exact ⟨ret_bool HV.out.symm, by (repeat (first | exact Below.refl _ _ | refine Below.setCell ?_ (by first | omega | (simp <;> omega)) _ | refine Below.alloc ?_ (by first | omega | (simp <;> omega)) _ | refine Below.drew ?_ | refine Below.trans ?_ (Below.mono (by assumption) (by first | omega | (simp <;> omega))) | refine Below.grown ?_ (by assumption) (by first | omega | (simp <;> omega)) (fun k e => by cases e; first | omega | (simp <;> omega))))⟩
  | true =>
    cases hn : inB n 0 1000000000 with
    | false =>
      have HV := Lib.hid (show dividesB p q m n = false by simp [dividesB, hn])
      have HB := Lib.hid h
      have HN := Lib.hid hn
      clear h hn
      go_enter Try.func18, Try.ntmps18
      go_wp2_with fail
      refine (implRank_val p q m _ true _ rfl HB.out).mono ?_
      rintro e w1 ⟨rfl, hh1⟩
      obtain ⟨hc1, hf1⟩ := bcell hh1
      have hz1 := hh1.size
      try simp only [World.size_alloc] at hz1
      go_wp2_with fail
      refine (farOk_is n false _ HN.out).mono ?_
      rintro e wx ⟨rfl, rfl⟩
      go_wp2
      go_ret
      exact ⟨ret_bool HV.out.symm, by (repeat (first | exact Below.refl _ _ | refine Below.setCell ?_ (by first | omega | (simp <;> omega)) _ | refine Below.alloc ?_ (by first | omega | (simp <;> omega)) _ | refine Below.drew ?_ | refine Below.trans ?_ (Below.mono (by assumption) (by first | omega | (simp <;> omega))) | refine Below.grown ?_ (by assumption) (by first | omega | (simp <;> omega)) (fun k e => by cases e; first | omega | (simp <;> omega))))⟩
    | true =>
      obtain ⟨n1, n2⟩ := inB_true hn
      obtain ⟨_, _, _, _, k, rfl, k1, k2, ha⟩ := rankB_true h
      obtain ⟨b1, b2⟩ := rank_bd (p := p) k1 k2 ha
      obtain ⟨i, rfl⟩ := Int.eq_ofNat_of_zero_le n1
      have HV := Lib.hid (show dividesB p q k i = decide (rankN p q k ∣ i) by simp [dividesB, h, hn])
      have HR := Lib.hid (rankV_is h)
      have HB := Lib.hid h
      have HN := Lib.hid hn
      obtain ⟨R, hR⟩ : ∃ R, rankN p q k = R := ⟨_, rfl⟩
      rw [hR] at HV HR b1 b2
      have hz : ((R : Int) == 0) = false := by simp; omega
      clear h hn ha hR n1
      go_enter Try.func18, Try.ntmps18
      go_wp2_with fail
      refine (implRank_val p q k R true _ HR.out HB.out).mono ?_
      rintro e w1 ⟨rfl, hh1⟩
      obtain ⟨hc1, hf1⟩ := bcell hh1
      have hz1 := hh1.size
      try simp only [World.size_alloc] at hz1
      go_wp2_with fail
      refine (farOk_is _ true _ HN.out).mono ?_
      rintro e wx ⟨rfl, rfl⟩
      go_wp2
      go_ret
      exact ⟨ret_bool (by rw [HV.out]; exact div_test i R), by (repeat (first | exact Below.refl _ _ | refine Below.setCell ?_ (by first | omega | (simp <;> omega)) _ | refine Below.alloc ?_ (by first | omega | (simp <;> omega)) _ | refine Below.drew ?_ | refine Below.trans ?_ (Below.mono (by assumption) (by first | omega | (simp <;> omega))) | refine Below.grown ?_ (by assumption) (by first | omega | (simp <;> omega)) (fun k e => by cases e; first | omega | (simp <;> omega))))⟩
set_option maxRecDepth 100000 in
set_option maxHeartbeats 8000000 in
theorem implSame_yes (p q : Int) (n : Nat) (w : World) (hp : pairB p q = true) (hn : inB (n : Int) 1 200 = true) : Calls Try.prog 21 #[pr p q, .int .i64 n] w (ListOf (holdL (sameB p q n) 101) w) := by
  obtain ⟨i0, hi0, hzi0, hzi1, hzi2⟩ := info_parts info_int
  obtain ⟨n1, n2⟩ := inB_true hn
  have HP := Lib.hid hp
  clear hn hp
  go_enter Try.func21, Try.ntmps21
  go_wp2_with fail
  refine (implPairOk_yes p q _ HP.out).mono ?_
  rintro e w1 ⟨rfl, hh1⟩
  obtain ⟨hc1, hf1⟩ := bcell hh1
  have hz1 := hh1.size
  try simp only [World.size_alloc] at hz1
  have hz1_0 : w.heap.size < w1.heap.size := by omega
  have kb1_0_0 : w1.cell? ⟨w.heap.size, 0, none⟩ = some (.int .i64 p) := by go_simp
  have kf1_0_0 : w1.frozen? ⟨w.heap.size, 0, none⟩ = false := by go_simp
  have kb1_0_1 : w1.cell? ⟨w.heap.size, 1, none⟩ = some (.int .i64 q) := by go_simp
  have kf1_0_1 : w1.frozen? ⟨w.heap.size, 1, none⟩ = false := by go_simp
  clear hc1 hf1
  go_wp2_with fail
  refine (ranksBy_any p q _).mono ?_
  rintro e w2 ⟨rfl, hm2, hh2⟩
  have hz2 := hh2.size
  try simp only [World.size_alloc] at hz2
  have hz2_0 : w.heap.size < w2.heap.size := by omega
  have hsz2 : w.heap.size < w2.heap.size := by omega
  have hml := hm2.lt
  have cp := cell_below hh2 kb1_0_0
  have cq := cell_below hh2 kb1_0_1
  have hB0 : Below w.heap.size w w2 := by
    (repeat (first | exact Below.refl _ _ | refine Below.setCell ?_ (by first | omega | (simp <;> omega)) _ | refine Below.alloc ?_ (by first | omega | (simp <;> omega)) _ | refine Below.drew ?_ | refine Below.trans ?_ (Below.mono (by assumption) (by first | omega | (simp <;> omega))) | refine Below.grown ?_ (by assumption) (by first | omega | (simp <;> omega)) (fun k e => by cases e; first | omega | (simp <;> omega))))
  have HB0 := Lib.hid hB0
  have hO := World.ownsRow_nil w2 w2.heap.size 3 1
  go_wp2_with fail
  go_loopw [6, 7] (fun v c wr => ∃ j : Nat, 1 ≤ j ∧ j ≤ 101 ∧ c = .int .i64 j ∧ wr.ownsRow w2.heap.size 3 1 v (holdL (sameB p q n) j).length (natCells (holdL (sameB p q n) j)) ∧
      wr.cell? ⟨w.heap.size, 0, none⟩ = some (.int .i64 p) ∧ wr.cell? ⟨w.heap.size, 1, none⟩ = some (.int .i64 q) ∧ w2.heap.size ≤ wr.heap.size ∧ Memo p q (w1.heap.size + 1 + 1) w1.heap.size (w1.heap.size + 1) (400 * j) wr ∧ Below w.heap.size w wr) (fun _ c _ => 110 - (intOf c).toNat)
  case atStart => exact ⟨1, by omega, by omega, rfl, by simpa [holdL, sameB, natCells] using hO, cp, cq, Nat.le_refl _, hm2.mono (by omega), HB0.out⟩
  case round =>
    obtain ⟨j, j1, hj, rfl, hown, kp, kq, hsz, hme, hB⟩ := hrel
    clear hO hm2 hh2 cp cq hB0
    have hlen := holdL_len (sameB p q n) j
    by_cases hlt : j ≤ 100
    · have HB := Lib.hid hB
      have HO := Lib.hid hown
      have HM := Lib.hid hme
      have HT := Lib.hid (sameB_test p q n j j1)
      clear hB hown hme
      cases hb3 : rankB p q j with
      | true =>
        have HR := Lib.hid hb3
        have HV := Lib.hid (rankV_is hb3)
        go_wp2_with fail
        refine (rankedOk_is p q j true _ HR.out).mono ?_
        rintro e w3 ⟨rfl, hh3⟩
        have kp3 := cell_below hh3 kp
        have kq3 := cell_below hh3 kq
        have hz3 := hh3.size
        have HO3 := Lib.hid (own_below HO.out hh3)
        have HM3 := Lib.hid (HM.out.below hh3)
        have HB3 := Lib.hid (HB.out.trans (hh3.mono (by omega)))
        clear kp kq hh3
        go_wp2_with fail
        refine (ranksFn_at p q j _ _ _ (400 * j) _ HR.out HM3.out (by omega)).mono ?_
        rintro e w4 ⟨rfl, hm4, hg4⟩
        obtain ⟨es, c9, hes⟩ := HM3.out.isMap
        have kp4 := hg4.cell kp3 (cells_map kp3 hes)
        have kq4 := hg4.cell kq3 (cells_map kq3 hes)
        have hz4 := hg4.size
        have hlk3 := HO3.out.lt
        have hown4 := HO3.out.kept hg4 (.inr (fun e => by have := hlk3 _ e; omega))
        have HB4 := Lib.hid (HB3.out.grown hg4 (by omega) (fun k e => by cases e; omega))
        have HM4 := Lib.hid hm4
        have hsz4 : w.heap.size < w4.heap.size := by omega
        clear kp3 kq3 hg4 hes hlk3 hm4 HO HM HB
        cases hbit : sameB p q n j with
        | true =>
          have hb4 : ((rankN p q j : Int) == (n : Int)) = true := by have := HT.out; rw [hbit, hb3, HV.out] at this; simpa using this.symm
          rw [beq_iff_eq] at hb4
          have E1 := Lib.hid (natCells_yes hbit)
          have E2 := Lib.hid (holdL_yes_len hbit)
          have hlk := hown4.lt
          clear hb3
          go_wp2_with (first | (at_builtin; refine wpList_append_own _ rfl _ _ 37 rfl w2.heap.size 3 i0 (.int .i64 0) 1 8 Try.underlying37 hi0 hzi0 hzi1 hzi2 rfl (by decide) _ _ _ rfl (hown4.alloc _) ⟨w4.heap.size, 0, none⟩ 1 1 [.int .i64 (j : Int)] rfl rfl (World.news_of_block (cs := #[.int .i64 (j : Int)]) (t := 3) (fr := (0, 0)) (heap_alloc_new w4 _)) (by simp [Value.oneCell']) (by unfold maxLen; omega) (by omega) (by simp; omega) ?_))
          intro v' w5 hown5 hgrow5 _
          rw [E1.out, E2.out] at hown5
          have kP : w5.cell? ⟨w.heap.size, 0, none⟩ = some (.int .i64 p) := (hgrow5.cell_far ⟨w.heap.size, 0, none⟩ (by simp; omega) (fun e => by have := hlk w.heap.size e.symm; omega)).trans ((World.cell?_alloc_past _ _ _ hsz4).trans kp4)
          have kQ : w5.cell? ⟨w.heap.size, 1, none⟩ = some (.int .i64 q) := (hgrow5.cell_far ⟨w.heap.size, 1, none⟩ (by simp; omega) (fun e => by have := hlk w.heap.size e.symm; omega)).trans ((World.cell?_alloc_past _ _ _ hsz4).trans kq4)
          have hz5 : w4.heap.size + 1 ≤ w5.heap.size := by have := hgrow5.size; simpa using this
          have hB5 : Below w.heap.size w w5 := (HB4.out.alloc (by omega) _).grown hgrow5 (by simp; omega) (fun k e => by have := hlk _ e; omega)
          have hM5 : Memo p q (w1.heap.size + 1 + 1) w1.heap.size (w1.heap.size + 1) (400 * (j + 1)) w5 := ((HM4.out.below ((Below.refl _ _).alloc (Nat.le_refl _) _)).far hgrow5 (fun e => by have := hlk _ e.symm; omega) (fun e => by have := hlk _ e.symm; omega) (fun e => by have := hlk _ e.symm; omega)).mono (by omega)
          clear hown4 hgrow5 kp4 kq4 hlk
          go_wp2
          go_roundw
          case rel => exact ⟨j + 1, by omega, by omega, congrArg (Value.int .i64) (by omega), hown5, kP, kQ, by omega, hM5, hB5⟩
          case measure => simp [intOf]; omega
        | false =>
          have hb4 : ((rankN p q j : Int) == (n : Int)) = false := by have := HT.out; rw [hbit, hb3, HV.out] at this; simpa using this.symm
          have E1 := Lib.hid (holdL_no hbit)
          have HO4 := Lib.hid hown4
          clear hown4 hb3
          go_wp2
          go_roundw
          case rel => exact ⟨j + 1, by omega, by omega, congrArg (Value.int .i64) (by omega), by rw [E1.out]; exact HO4.out, kp4, kq4, by omega, HM4.out.mono (by omega), HB4.out⟩
          case measure => simp [intOf]; omega
      | false =>
        have hbit : sameB p q n j = false := by rw [HT.out, hb3]; rfl
        have E1 := Lib.hid (holdL_no hbit)
        have HR := Lib.hid hb3
        clear hb3 hbit
        go_wp2_with fail
        refine (rankedOk_is p q j false _ HR.out).mono ?_
        rintro e w3 ⟨rfl, hh3⟩
        have kp3 := cell_below hh3 kp
        have kq3 := cell_below hh3 kq
        have hz3 := hh3.size
        have HO3 := Lib.hid (own_below HO.out hh3)
        have HM3 := Lib.hid (HM.out.below hh3)
        have HB3 := Lib.hid (HB.out.trans (hh3.mono (by omega)))
        clear kp kq hh3
        go_wp2
        go_roundw
        case rel => exact ⟨j + 1, by omega, by omega, congrArg (Value.int .i64) (by omega), by rw [E1.out]; exact HO3.out, kp3, kq3, by omega, HM3.out.mono (by omega), HB3.out⟩
        case measure => simp [intOf]; omega
    · obtain rfl : j = 101 := by omega
      have HO := Lib.hid hown
      clear hown
      go_wp2
      go_ret
      exact ⟨_, rfl, (IsInts.of_owns (by rw [← natCells_range]; exact HO.out)).mono (by omega) (Nat.le_refl _) (Nat.le_refl _), hB⟩
theorem sameL_none {p q n : Int} (h : pairB p q = false) : sameL p q n = [] := by
  rw [sameL]
  split
  · rw [holdL, List.filter_eq_nil_iff]
    intro j _
    simp [sameB, rankB, h]
  · rfl
set_option maxHeartbeats 4000000 in
theorem implSame_any (p q n : Int) (w : World) : Calls Try.prog 21 #[pr p q, .int .i64 n] w (ListOf (sameL p q n) w) := by
  cases hp : pairB p q with
  | false =>
    have HL := Lib.hid (sameL_none (n := n) hp)
    have HP := Lib.hid hp
    clear hp
    go_enter Try.func21, Try.ntmps21
    go_wp2_with fail
    refine (implPairOk_no p q _ HP.out).mono ?_
    rintro e w1 ⟨rfl, hh1⟩
    obtain ⟨hc1, hf1⟩ := bcell hh1
    have hz1 := hh1.size
    try simp only [World.size_alloc] at hz1
    have hz1_0 : w.heap.size < w1.heap.size := by omega
    have kb1_0_0 : w1.cell? ⟨w.heap.size, 0, none⟩ = some (.int .i64 p) := by go_simp
    have kf1_0_0 : w1.frozen? ⟨w.heap.size, 0, none⟩ = false := by go_simp
    have kb1_0_1 : w1.cell? ⟨w.heap.size, 1, none⟩ = some (.int .i64 q) := by go_simp
    have kf1_0_1 : w1.frozen? ⟨w.heap.size, 1, none⟩ = false := by go_simp
    clear hc1 hf1
    go_wp2
    go_ret
    exact ⟨_, rfl, by rw [HL.out]; exact IsInts.empty _ _ _ _ _, by (repeat (first | exact Below.refl _ _ | refine Below.setCell ?_ (by first | omega | (simp <;> omega)) _ | refine Below.alloc ?_ (by first | omega | (simp <;> omega)) _ | refine Below.drew ?_ | refine Below.trans ?_ (Below.mono (by assumption) (by first | omega | (simp <;> omega))) | refine Below.grown ?_ (by assumption) (by first | omega | (simp <;> omega)) (fun k e => by cases e; first | omega | (simp <;> omega))))⟩
  | true =>
    cases h : inB n 1 200 with
    | true =>
      obtain ⟨n1, n2⟩ := inB_true h
      obtain ⟨k, rfl⟩ := Int.eq_ofNat_of_zero_le (show 0 ≤ n by omega)
      rw [sameL, if_pos h]
      exact implSame_yes p q k w hp h
    | false =>
      have HL := Lib.hid (show sameL p q n = [] by rw [sameL, if_neg (by simp [h])])
      have HP := Lib.hid hp
      by_cases n1 : 1 ≤ n
      · have n2 : 200 < n := by
          rcases Int.lt_or_le 200 n with h1 | h1
          · exact h1
          · rw [inB_mk n1 h1] at h; cases h
        clear h hp
        go_enter Try.func21, Try.ntmps21
        go_wp2_with fail
        refine (implPairOk_yes p q _ HP.out).mono ?_
        rintro e w1 ⟨rfl, hh1⟩
        obtain ⟨hc1, hf1⟩ := bcell hh1
        have hz1 := hh1.size
        try simp only [World.size_alloc] at hz1
        have hz1_0 : w.heap.size < w1.heap.size := by omega
        have kb1_0_0 : w1.cell? ⟨w.heap.size, 0, none⟩ = some (.int .i64 p) := by go_simp
        have kf1_0_0 : w1.frozen? ⟨w.heap.size, 0, none⟩ = false := by go_simp
        have kb1_0_1 : w1.cell? ⟨w.heap.size, 1, none⟩ = some (.int .i64 q) := by go_simp
        have kf1_0_1 : w1.frozen? ⟨w.heap.size, 1, none⟩ = false := by go_simp
        clear hc1 hf1
        go_wp2
        go_ret
        exact ⟨_, rfl, by rw [HL.out]; exact IsInts.empty _ _ _ _ _, by (repeat (first | exact Below.refl _ _ | refine Below.setCell ?_ (by first | omega | (simp <;> omega)) _ | refine Below.alloc ?_ (by first | omega | (simp <;> omega)) _ | refine Below.drew ?_ | refine Below.trans ?_ (Below.mono (by assumption) (by first | omega | (simp <;> omega))) | refine Below.grown ?_ (by assumption) (by first | omega | (simp <;> omega)) (fun k e => by cases e; first | omega | (simp <;> omega))))⟩
      · have n1' : n < 1 := by omega
        clear h hp
        go_enter Try.func21, Try.ntmps21
        go_wp2_with fail
        refine (implPairOk_yes p q _ HP.out).mono ?_
        rintro e w1 ⟨rfl, hh1⟩
        obtain ⟨hc1, hf1⟩ := bcell hh1
        have hz1 := hh1.size
        try simp only [World.size_alloc] at hz1
        have hz1_0 : w.heap.size < w1.heap.size := by omega
        have kb1_0_0 : w1.cell? ⟨w.heap.size, 0, none⟩ = some (.int .i64 p) := by go_simp
        have kf1_0_0 : w1.frozen? ⟨w.heap.size, 0, none⟩ = false := by go_simp
        have kb1_0_1 : w1.cell? ⟨w.heap.size, 1, none⟩ = some (.int .i64 q) := by go_simp
        have kf1_0_1 : w1.frozen? ⟨w.heap.size, 1, none⟩ = false := by go_simp
        clear hc1 hf1
        go_wp2
        go_ret
        exact ⟨_, rfl, by rw [HL.out]; exact IsInts.empty _ _ _ _ _, by (repeat (first | exact Below.refl _ _ | refine Below.setCell ?_ (by first | omega | (simp <;> omega)) _ | refine Below.alloc ?_ (by first | omega | (simp <;> omega)) _ | refine Below.drew ?_ | refine Below.trans ?_ (Below.mono (by assumption) (by first | omega | (simp <;> omega))) | refine Below.grown ?_ (by assumption) (by first | omega | (simp <;> omega)) (fun k e => by cases e; first | omega | (simp <;> omega))))⟩
end Go.Proofs.Ytgipkcbmanjpcaa
namespace Go.Proofs.Ytgipkcbmanjpcaa
open Go.RowKit
theorem implRank_is (p q m v : Int) (c : Bool) (w : World) (hv : rankV p q m = v) (hc : rankB p q m = c) : Calls Try.prog 12 #[pr p q, .int .i64 m] w fun e w' => e = .returned (.tuple #[.int .i64 v, .bool c]) ∧ Below w.heap.size w w' := by rw [← hv, ← hc]; exact implRank_any p q m w
theorem implDivides_is (p q m n : Int) (c : Bool) (w : World) (hc : dividesB p q m n = c) : Calls Try.prog 18 #[pr p q, .int .i64 m, .int .i64 n] w fun e w' => e = .returned (.bool c) ∧ Below w.heap.size w w' := by rw [← hc]; exact implDivides_any p q m n w
theorem specDivides_is (p q m n : Int) (c : Bool) (w : World) (hc : dividesB p q m n = c) : Calls Try.prog 19 #[pr p q, .int .i64 m, .int .i64 n] w fun e w' => e = .returned (.bool c) ∧ Below w.heap.size w w' := by rw [← hc]; exact specDivides_any p q m n w
theorem implLeast_is (a b v : Int) (w : World) (hv : leastV a b = v) : Calls Try.prog 16 #[.int .i64 a, .int .i64 b] w fun e w' => e = .returned (.int .i64 v) ∧ Below w.heap.size w w' := by rw [← hv]; exact implLeast_any a b w
/-- At a place a number with a rank divides just if its rank divides the place. -/
theorem divides_left {p q : Int} {k : Nat} (h : rankB p q k = true) (hk : 1 ≤ k) (ha : Apart (k : Int) q) (t : Nat) (ht : t ≤ 1000000000) : dividesB p q k t = (row p q 0 1 t % (k : Int) == 0) := by
  rw [Bool.eq_iff_iff, left_zero_iff, rankN_dvd k hk ha]
  simp [dividesB, h, inB_mk (n := (t : Int)) (a := 0) (b := 1000000000) (by omega) (by omega)]
set_option maxRecDepth 100000 in
set_option maxHeartbeats 4000000 in
theorem fnLeastOver_walk (a : Option Addr) (len cap : Nat) (z : List Int) (w : World) (w0 : IsRow w a len cap z) :
    Calls Try.prog 6 #[.slice a len cap] w fun e w' => e = .returned (.bool true) ∧ Below w.heap.size w w' := by
  by_cases hbig : 1048576 < len
  · go_enter Try.func6, Try.ntmps6
    go_wp2
    go_ret
    exact ⟨rfl, Below.refl _ _⟩
  · have hsm : len ≤ 1048576 := by omega
    go_enter Try.func6, Try.ntmps6
    go_wp2_with fail
    refine (drawLeastOver_any _ _ _ _ z w0).mono ?_
    rintro e w1 ⟨a, b, rfl, hh1⟩
    have hz1 := hh1.size
    obtain ⟨hc1, hf1⟩ := bcell hh1
    cases h : leastB a b with
    | false =>
      have HV := Lib.hid (show leastV a b = -1 by rw [leastV, if_neg (by simp [h])])
      clear h
      go_wp2_with fail
      refine (implLeast_is a b _ _ HV.out).mono ?_
      rintro e w2 ⟨rfl, hh2⟩
      obtain ⟨hc2, hf2⟩ := bcell hh2
      have hz2 := hh2.size
      try simp only [World.size_alloc] at hz2
      clear hc2 hf2
      go_wp2_with fail
      refine (specLeast_is a b _ _ HV.out).mono ?_
      rintro e wx ⟨rfl, rfl⟩
      go_wp2_with fail
      refine (alive_any _).mono ?_
      rintro e w3 ⟨rfl, hh3⟩
      obtain ⟨hc3, hf3⟩ := bcell hh3
      have hz3 := hh3.size
      try simp only [World.size_alloc] at hz3
      clear hc3 hf3
      go_wp2
      go_ret
      exact ⟨rfl, by (repeat (first | exact Below.refl _ _ | refine Below.setCell ?_ (by first | omega | (simp <;> omega)) _ | refine Below.alloc ?_ (by first | omega | (simp <;> omega)) _ | refine Below.drew ?_ | refine Below.trans ?_ (Below.mono (by assumption) (by first | omega | (simp <;> omega))) | refine Below.grown ?_ (by assumption) (by first | omega | (simp <;> omega)) (fun k e => by cases e; first | omega | (simp <;> omega))))⟩
    | true =>
      have h' : inB a 1 200000 = true ∧ inB b 1 200000 = true := by simpa [leastB] using h
      obtain ⟨ha, hb⟩ := h'
      obtain ⟨a1, a2⟩ := inB_true ha
      obtain ⟨b1, b2⟩ := inB_true hb
      obtain ⟨i, rfl⟩ := Int.eq_ofNat_of_zero_le (show 0 ≤ a by omega)
      obtain ⟨j, rfl⟩ := Int.eq_ofNat_of_zero_le (show 0 ≤ b by omega)
      obtain ⟨l, hl⟩ : ∃ l, Nat.lcm i j = l := ⟨_, rfl⟩
      obtain ⟨g, hg⟩ : ∃ g, Nat.gcd i j = g := ⟨_, rfl⟩
      have HV := Lib.hid (show leastV (i : Int) (j : Int) = (l : Int) by rw [leastV, if_pos h, ← hl]; rfl)
      have hgl : g * l = i * j := by rw [← hg, ← hl]; exact Nat.gcd_mul_lcm i j
      have hl1 : 1 ≤ l := by rw [← hl]; exact Nat.lcm_pos (by omega) (by omega)
      have hg1 : 1 ≤ g := by rw [← hg]; exact Nat.gcd_pos_of_pos_left _ (by omega)
      have hij : i * j ≤ 200000 * 200000 := Nat.mul_le_mul (by omega) (by omega)
      have d1 : (l : Int) % (i : Int) = 0 := Int.emod_eq_zero_of_dvd (Int.natCast_dvd_natCast.2 (by rw [← hl]; exact Nat.dvd_lcm_left i j))
      have d2 : (l : Int) % (j : Int) = 0 := Int.emod_eq_zero_of_dvd (Int.natCast_dvd_natCast.2 (by rw [← hl]; exact Nat.dvd_lcm_right i j))
      have d3 : (i : Int) % (g : Int) = 0 := Int.emod_eq_zero_of_dvd (Int.natCast_dvd_natCast.2 (by rw [← hg]; exact Nat.gcd_dvd_left i j))
      have d4 : (j : Int) % (g : Int) = 0 := Int.emod_eq_zero_of_dvd (Int.natCast_dvd_natCast.2 (by rw [← hg]; exact Nat.gcd_dvd_right i j))
      have hP : (i : Int) * (j : Int) = ((i * j : Nat) : Int) := by simp
      have hG : (g : Int) * (l : Int) = ((i * j : Nat) : Int) := by rw [← hgl]; simp
      have hp0 : 0 ≤ (i : Int) * (j : Int) := by rw [hP]; omega
      have hQ : ((i : Int) * (j : Int)) / (l : Int) = (g : Int) := by rw [hP, ← hgl]; simp; exact Int.mul_ediv_cancel _ (by omega)
      have hQt : ((i : Int) * (j : Int)).tdiv (l : Int) = (g : Int) := by rw [Int.tdiv_eq_ediv_of_nonneg hp0]; exact hQ
      have U1 : IntKind.i64.wrap ((i : Int) * (j : Int)) = (i : Int) * (j : Int) := by rw [IntKind.wrap_i64, hP]; omega
      have U2 : IntKind.i64.wrap ((g : Int) * (l : Int)) = (i : Int) * (j : Int) := by rw [IntKind.wrap_i64, hG, hP]; omega
      have hgb : g ≤ 200000 := by rw [← hg]; exact Nat.le_trans (Nat.le_of_dvd (by omega) (Nat.gcd_dvd_left i j)) (by omega)
      have z1 : ((l : Int) == 0) = false := by simp; omega
      have z2 : ((i : Int) == 0) = false := by simp; omega
      have z3 : ((j : Int) == 0) = false := by simp; omega
      have z4 : ((g : Int) == 0) = false := by simp; omega
      clear h ha hb hl hg hgl hij hP hG
      go_wp2_with fail
      refine (implLeast_is _ _ _ _ HV.out).mono ?_
      rintro e w2 ⟨rfl, hh2⟩
      obtain ⟨hc2, hf2⟩ := bcell hh2
      have hz2 := hh2.size
      try simp only [World.size_alloc] at hz2
      clear hc2 hf2
      go_wp2_with fail
      refine (specLeast_is _ _ _ _ HV.out).mono ?_
      rintro e wx ⟨rfl, rfl⟩
      go_wp2
      go_ret
      exact ⟨rfl, by (repeat (first | exact Below.refl _ _ | refine Below.setCell ?_ (by first | omega | (simp <;> omega)) _ | refine Below.alloc ?_ (by first | omega | (simp <;> omega)) _ | refine Below.drew ?_ | refine Below.trans ?_ (Below.mono (by assumption) (by first | omega | (simp <;> omega))) | refine Below.grown ?_ (by assumption) (by first | omega | (simp <;> omega)) (fun k e => by cases e; first | omega | (simp <;> omega))))⟩
set_option maxRecDepth 100000 in
set_option maxHeartbeats 4000000 in
theorem fnDividesAt_walk (a : Option Addr) (len cap : Nat) (z : List Int) (w : World) (w0 : IsRow w a len cap z) :
    Calls Try.prog 4 #[.slice a len cap] w fun e w' => e = .returned (.bool true) ∧ Below w.heap.size w w' := by
  by_cases hbig : 1048576 < len
  · go_enter Try.func4, Try.ntmps4
    go_wp2
    go_ret
    exact ⟨rfl, Below.refl _ _⟩
  · have hsm : len ≤ 1048576 := by omega
    go_enter Try.func4, Try.ntmps4
    go_wp2_with fail
    refine (drawDividesAt_any _ _ _ _ z w0).mono ?_
    rintro e w1 ⟨p, q, m, n, rfl, hh1⟩
    have hz1 := hh1.size
    obtain ⟨hc1, hf1⟩ := bcell hh1
    cases h : rankB p q m with
    | false =>
      have HD := Lib.hid (show dividesB p q m n = false by simp [dividesB, h])
      have HB := Lib.hid h
      clear h
      go_wp2_with fail
      refine (implDivides_is p q _ _ false _ HD.out).mono ?_
      rintro e w2 ⟨rfl, hh2⟩
      obtain ⟨hc2, hf2⟩ := bcell hh2
      have hz2 := hh2.size
      try simp only [World.size_alloc] at hz2
      have hz2_0 : w1.heap.size < w2.heap.size := by omega
      have kb2_0_0 : w2.cell? ⟨w1.heap.size, 0, none⟩ = some (.int .i64 p) := by go_simp
      have kf2_0_0 : w2.frozen? ⟨w1.heap.size, 0, none⟩ = false := by go_simp
      have kb2_0_1 : w2.cell? ⟨w1.heap.size, 1, none⟩ = some (.int .i64 q) := by go_simp
      have kf2_0_1 : w2.frozen? ⟨w1.heap.size, 1, none⟩ = false := by go_simp
      clear hc2 hf2
      go_wp2_with fail
      refine (specDivides_is p q _ _ false _ HD.out).mono ?_
      rintro e w3 ⟨rfl, hh3⟩
      obtain ⟨hc3, hf3⟩ := bcell hh3
      have hz3 := hh3.size
      try simp only [World.size_alloc] at hz3
      have hz3_0 : w1.heap.size < w3.heap.size := by omega
      have kb3_0_0 : w3.cell? ⟨w1.heap.size, 0, none⟩ = some (.int .i64 p) := by go_simp
      have kf3_0_0 : w3.frozen? ⟨w1.heap.size, 0, none⟩ = false := by go_simp
      have kb3_0_1 : w3.cell? ⟨w1.heap.size, 1, none⟩ = some (.int .i64 q) := by go_simp
      have kf3_0_1 : w3.frozen? ⟨w1.heap.size, 1, none⟩ = false := by go_simp
      clear hc3 hf3
      go_wp2_with fail
      refine (specRank_is p q _ _ false _ rfl HB.out).mono ?_
      rintro e w4 ⟨rfl, hh4⟩
      obtain ⟨hc4, hf4⟩ := bcell hh4
      have hz4 := hh4.size
      try simp only [World.size_alloc] at hz4
      have hz4_0 : w1.heap.size < w4.heap.size := by omega
      have kb4_0_0 : w4.cell? ⟨w1.heap.size, 0, none⟩ = some (.int .i64 p) := by go_simp
      have kf4_0_0 : w4.frozen? ⟨w1.heap.size, 0, none⟩ = false := by go_simp
      have kb4_0_1 : w4.cell? ⟨w1.heap.size, 1, none⟩ = some (.int .i64 q) := by go_simp
      have kf4_0_1 : w4.frozen? ⟨w1.heap.size, 1, none⟩ = false := by go_simp
      clear hc4 hf4
      go_wp2_with fail
      refine (alive_any _).mono ?_
      rintro e w5 ⟨rfl, hh5⟩
      obtain ⟨hc5, hf5⟩ := bcell hh5
      have hz5 := hh5.size
      try simp only [World.size_alloc] at hz5
      clear hc5 hf5
      go_wp2
      go_ret
      exact ⟨rfl, by (repeat (first | exact Below.refl _ _ | refine Below.setCell ?_ (by first | omega | (simp <;> omega)) _ | refine Below.alloc ?_ (by first | omega | (simp <;> omega)) _ | refine Below.drew ?_ | refine Below.trans ?_ (Below.mono (by assumption) (by first | omega | (simp <;> omega))) | refine Below.grown ?_ (by assumption) (by first | omega | (simp <;> omega)) (fun k e => by cases e; first | omega | (simp <;> omega))))⟩
    | true =>
      obtain ⟨hp, _, _, _, k, rfl, k1, k2, ha⟩ := rankB_true h
      have HB := Lib.hid h
      by_cases hn0 : n < 0
      · have HD := Lib.hid (show dividesB p q k n = false by simp [dividesB, inB_no (n := n) (a := 0) (b := 1000000000) (by omega)])
        clear h hp
        go_wp2_with fail
        refine (implDivides_is p q _ _ false _ HD.out).mono ?_
        rintro e w2 ⟨rfl, hh2⟩
        obtain ⟨hc2, hf2⟩ := bcell hh2
        have hz2 := hh2.size
        try simp only [World.size_alloc] at hz2
        have hz2_0 : w1.heap.size < w2.heap.size := by omega
        have kb2_0_0 : w2.cell? ⟨w1.heap.size, 0, none⟩ = some (.int .i64 p) := by go_simp
        have kf2_0_0 : w2.frozen? ⟨w1.heap.size, 0, none⟩ = false := by go_simp
        have kb2_0_1 : w2.cell? ⟨w1.heap.size, 1, none⟩ = some (.int .i64 q) := by go_simp
        have kf2_0_1 : w2.frozen? ⟨w1.heap.size, 1, none⟩ = false := by go_simp
        clear hc2 hf2
        go_wp2_with fail
        refine (specDivides_is p q _ _ false _ HD.out).mono ?_
        rintro e w3 ⟨rfl, hh3⟩
        obtain ⟨hc3, hf3⟩ := bcell hh3
        have hz3 := hh3.size
        try simp only [World.size_alloc] at hz3
        have hz3_0 : w1.heap.size < w3.heap.size := by omega
        have kb3_0_0 : w3.cell? ⟨w1.heap.size, 0, none⟩ = some (.int .i64 p) := by go_simp
        have kf3_0_0 : w3.frozen? ⟨w1.heap.size, 0, none⟩ = false := by go_simp
        have kb3_0_1 : w3.cell? ⟨w1.heap.size, 1, none⟩ = some (.int .i64 q) := by go_simp
        have kf3_0_1 : w3.frozen? ⟨w1.heap.size, 1, none⟩ = false := by go_simp
        clear hc3 hf3
        go_wp2_with fail
        refine (specRank_is p q _ _ true _ rfl HB.out).mono ?_
        rintro e w4 ⟨rfl, hh4⟩
        obtain ⟨hc4, hf4⟩ := bcell hh4
        have hz4 := hh4.size
        try simp only [World.size_alloc] at hz4
        have hz4_0 : w1.heap.size < w4.heap.size := by omega
        have kb4_0_0 : w4.cell? ⟨w1.heap.size, 0, none⟩ = some (.int .i64 p) := by go_simp
        have kf4_0_0 : w4.frozen? ⟨w1.heap.size, 0, none⟩ = false := by go_simp
        have kb4_0_1 : w4.cell? ⟨w1.heap.size, 1, none⟩ = some (.int .i64 q) := by go_simp
        have kf4_0_1 : w4.frozen? ⟨w1.heap.size, 1, none⟩ = false := by go_simp
        clear hc4 hf4
        go_wp2_with fail
        refine (alive_any _).mono ?_
        rintro e w5 ⟨rfl, hh5⟩
        obtain ⟨hc5, hf5⟩ := bcell hh5
        have hz5 := hh5.size
        try simp only [World.size_alloc] at hz5
        clear hc5 hf5
        go_wp2
        go_ret
        exact ⟨rfl, by (repeat (first | exact Below.refl _ _ | refine Below.setCell ?_ (by first | omega | (simp <;> omega)) _ | refine Below.alloc ?_ (by first | omega | (simp <;> omega)) _ | refine Below.drew ?_ | refine Below.trans ?_ (Below.mono (by assumption) (by first | omega | (simp <;> omega))) | refine Below.grown ?_ (by assumption) (by first | omega | (simp <;> omega)) (fun k e => by cases e; first | omega | (simp <;> omega))))⟩
      · by_cases hn1 : 1000000000 < n
        · have HD := Lib.hid (show dividesB p q k n = false by simp [dividesB, inB_no (n := n) (a := 0) (b := 1000000000) (by omega)])
          clear h hp
          go_wp2_with fail
          refine (implDivides_is p q _ _ false _ HD.out).mono ?_
          rintro e w2 ⟨rfl, hh2⟩
          obtain ⟨hc2, hf2⟩ := bcell hh2
          have hz2 := hh2.size
          try simp only [World.size_alloc] at hz2
          have hz2_0 : w1.heap.size < w2.heap.size := by omega
          have kb2_0_0 : w2.cell? ⟨w1.heap.size, 0, none⟩ = some (.int .i64 p) := by go_simp
          have kf2_0_0 : w2.frozen? ⟨w1.heap.size, 0, none⟩ = false := by go_simp
          have kb2_0_1 : w2.cell? ⟨w1.heap.size, 1, none⟩ = some (.int .i64 q) := by go_simp
          have kf2_0_1 : w2.frozen? ⟨w1.heap.size, 1, none⟩ = false := by go_simp
          clear hc2 hf2
          go_wp2_with fail
          refine (specDivides_is p q _ _ false _ HD.out).mono ?_
          rintro e w3 ⟨rfl, hh3⟩
          obtain ⟨hc3, hf3⟩ := bcell hh3
          have hz3 := hh3.size
          try simp only [World.size_alloc] at hz3
          have hz3_0 : w1.heap.size < w3.heap.size := by omega
          have kb3_0_0 : w3.cell? ⟨w1.heap.size, 0, none⟩ = some (.int .i64 p) := by go_simp
          have kf3_0_0 : w3.frozen? ⟨w1.heap.size, 0, none⟩ = false := by go_simp
          have kb3_0_1 : w3.cell? ⟨w1.heap.size, 1, none⟩ = some (.int .i64 q) := by go_simp
          have kf3_0_1 : w3.frozen? ⟨w1.heap.size, 1, none⟩ = false := by go_simp
          clear hc3 hf3
          go_wp2_with fail
          refine (specRank_is p q _ _ true _ rfl HB.out).mono ?_
          rintro e w4 ⟨rfl, hh4⟩
          obtain ⟨hc4, hf4⟩ := bcell hh4
          have hz4 := hh4.size
          try simp only [World.size_alloc] at hz4
          have hz4_0 : w1.heap.size < w4.heap.size := by omega
          have kb4_0_0 : w4.cell? ⟨w1.heap.size, 0, none⟩ = some (.int .i64 p) := by go_simp
          have kf4_0_0 : w4.frozen? ⟨w1.heap.size, 0, none⟩ = false := by go_simp
          have kb4_0_1 : w4.cell? ⟨w1.heap.size, 1, none⟩ = some (.int .i64 q) := by go_simp
          have kf4_0_1 : w4.frozen? ⟨w1.heap.size, 1, none⟩ = false := by go_simp
          clear hc4 hf4
          go_wp2_with fail
          refine (alive_any _).mono ?_
          rintro e w5 ⟨rfl, hh5⟩
          obtain ⟨hc5, hf5⟩ := bcell hh5
          have hz5 := hh5.size
          try simp only [World.size_alloc] at hz5
          clear hc5 hf5
          go_wp2
          go_ret
          exact ⟨rfl, by (repeat (first | exact Below.refl _ _ | refine Below.setCell ?_ (by first | omega | (simp <;> omega)) _ | refine Below.alloc ?_ (by first | omega | (simp <;> omega)) _ | refine Below.drew ?_ | refine Below.trans ?_ (Below.mono (by assumption) (by first | omega | (simp <;> omega))) | refine Below.grown ?_ (by assumption) (by first | omega | (simp <;> omega)) (fun k e => by cases e; first | omega | (simp <;> omega))))⟩
        · obtain ⟨t, rfl⟩ := Int.eq_ofNat_of_zero_le (show 0 ≤ n by omega)
          have HE := Lib.hid (divides_left h k1 ha t (by omega))
          have HZ := Lib.hid (show dividesB p q k (0 : Int) = true by simpa [row] using divides_left h k1 ha 0 (by omega))
          have HP := Lib.hid hp
          clear h hp
          cases hc : dividesB p q k t with
          | true =>
            have HD := Lib.hid hc
            have hb : (row p q 0 1 t % (k : Int)) = 0 := by have := HE.out; rw [hc] at this; exact beq_iff_eq.1 this.symm
            have HF := Lib.hid hb
            clear hc hb
            go_wp2_with fail
            refine (implDivides_is p q _ _ true _ HD.out).mono ?_
            rintro e w2 ⟨rfl, hh2⟩
            obtain ⟨hc2, hf2⟩ := bcell hh2
            have hz2 := hh2.size
            try simp only [World.size_alloc] at hz2
            have hz2_0 : w1.heap.size < w2.heap.size := by omega
            have kb2_0_0 : w2.cell? ⟨w1.heap.size, 0, none⟩ = some (.int .i64 p) := by go_simp
            have kf2_0_0 : w2.frozen? ⟨w1.heap.size, 0, none⟩ = false := by go_simp
            have kb2_0_1 : w2.cell? ⟨w1.heap.size, 1, none⟩ = some (.int .i64 q) := by go_simp
            have kf2_0_1 : w2.frozen? ⟨w1.heap.size, 1, none⟩ = false := by go_simp
            clear hc2 hf2
            go_wp2_with fail
            refine (specDivides_is p q _ _ true _ HD.out).mono ?_
            rintro e w3 ⟨rfl, hh3⟩
            obtain ⟨hc3, hf3⟩ := bcell hh3
            have hz3 := hh3.size
            try simp only [World.size_alloc] at hz3
            have hz3_0 : w1.heap.size < w3.heap.size := by omega
            have kb3_0_0 : w3.cell? ⟨w1.heap.size, 0, none⟩ = some (.int .i64 p) := by go_simp
            have kf3_0_0 : w3.frozen? ⟨w1.heap.size, 0, none⟩ = false := by go_simp
            have kb3_0_1 : w3.cell? ⟨w1.heap.size, 1, none⟩ = some (.int .i64 q) := by go_simp
            have kf3_0_1 : w3.frozen? ⟨w1.heap.size, 1, none⟩ = false := by go_simp
            clear hc3 hf3
            go_wp2_with fail
            refine (specRank_is p q _ _ true _ rfl HB.out).mono ?_
            rintro e w4 ⟨rfl, hh4⟩
            obtain ⟨hc4, hf4⟩ := bcell hh4
            have hz4 := hh4.size
            try simp only [World.size_alloc] at hz4
            have hz4_0 : w1.heap.size < w4.heap.size := by omega
            have kb4_0_0 : w4.cell? ⟨w1.heap.size, 0, none⟩ = some (.int .i64 p) := by go_simp
            have kf4_0_0 : w4.frozen? ⟨w1.heap.size, 0, none⟩ = false := by go_simp
            have kb4_0_1 : w4.cell? ⟨w1.heap.size, 1, none⟩ = some (.int .i64 q) := by go_simp
            have kf4_0_1 : w4.frozen? ⟨w1.heap.size, 1, none⟩ = false := by go_simp
            clear hc4 hf4
            go_wp2_with fail
            refine (implFarFirst_at p q k t 0 _ _ rfl HP.out (by omega) (by omega) (by omega) HF.out).mono ?_
            rintro e w5 ⟨rfl, hh5⟩
            obtain ⟨hc5, hf5⟩ := bcell hh5
            have hz5 := hh5.size
            try simp only [World.size_alloc] at hz5
            have hz5_0 : w1.heap.size < w5.heap.size := by omega
            have kb5_0_0 : w5.cell? ⟨w1.heap.size, 0, none⟩ = some (.int .i64 p) := by go_simp
            have kf5_0_0 : w5.frozen? ⟨w1.heap.size, 0, none⟩ = false := by go_simp
            have kb5_0_1 : w5.cell? ⟨w1.heap.size, 1, none⟩ = some (.int .i64 q) := by go_simp
            have kf5_0_1 : w5.frozen? ⟨w1.heap.size, 1, none⟩ = false := by go_simp
            clear hc5 hf5
            go_wp2_with fail
            refine (implDivides_is p q _ _ true _ HZ.out).mono ?_
            rintro e w6 ⟨rfl, hh6⟩
            obtain ⟨hc6, hf6⟩ := bcell hh6
            have hz6 := hh6.size
            try simp only [World.size_alloc] at hz6
            have hz6_0 : w1.heap.size < w6.heap.size := by omega
            have kb6_0_0 : w6.cell? ⟨w1.heap.size, 0, none⟩ = some (.int .i64 p) := by go_simp
            have kf6_0_0 : w6.frozen? ⟨w1.heap.size, 0, none⟩ = false := by go_simp
            have kb6_0_1 : w6.cell? ⟨w1.heap.size, 1, none⟩ = some (.int .i64 q) := by go_simp
            have kf6_0_1 : w6.frozen? ⟨w1.heap.size, 1, none⟩ = false := by go_simp
            clear hc6 hf6
            go_wp2
            go_ret
            exact ⟨rfl, by (repeat (first | exact Below.refl _ _ | refine Below.setCell ?_ (by first | omega | (simp <;> omega)) _ | refine Below.alloc ?_ (by first | omega | (simp <;> omega)) _ | refine Below.drew ?_ | refine Below.trans ?_ (Below.mono (by assumption) (by first | omega | (simp <;> omega))) | refine Below.grown ?_ (by assumption) (by first | omega | (simp <;> omega)) (fun k e => by cases e; first | omega | (simp <;> omega))))⟩
          | false =>
            have HD := Lib.hid hc
            have hb : (row p q 0 1 t % (k : Int) == 0) = false := by rw [← HE.out]; exact hc
            clear hc
            go_wp2_with fail
            refine (implDivides_is p q _ _ false _ HD.out).mono ?_
            rintro e w2 ⟨rfl, hh2⟩
            obtain ⟨hc2, hf2⟩ := bcell hh2
            have hz2 := hh2.size
            try simp only [World.size_alloc] at hz2
            have hz2_0 : w1.heap.size < w2.heap.size := by omega
            have kb2_0_0 : w2.cell? ⟨w1.heap.size, 0, none⟩ = some (.int .i64 p) := by go_simp
            have kf2_0_0 : w2.frozen? ⟨w1.heap.size, 0, none⟩ = false := by go_simp
            have kb2_0_1 : w2.cell? ⟨w1.heap.size, 1, none⟩ = some (.int .i64 q) := by go_simp
            have kf2_0_1 : w2.frozen? ⟨w1.heap.size, 1, none⟩ = false := by go_simp
            clear hc2 hf2
            go_wp2_with fail
            refine (specDivides_is p q _ _ false _ HD.out).mono ?_
            rintro e w3 ⟨rfl, hh3⟩
            obtain ⟨hc3, hf3⟩ := bcell hh3
            have hz3 := hh3.size
            try simp only [World.size_alloc] at hz3
            have hz3_0 : w1.heap.size < w3.heap.size := by omega
            have kb3_0_0 : w3.cell? ⟨w1.heap.size, 0, none⟩ = some (.int .i64 p) := by go_simp
            have kf3_0_0 : w3.frozen? ⟨w1.heap.size, 0, none⟩ = false := by go_simp
            have kb3_0_1 : w3.cell? ⟨w1.heap.size, 1, none⟩ = some (.int .i64 q) := by go_simp
            have kf3_0_1 : w3.frozen? ⟨w1.heap.size, 1, none⟩ = false := by go_simp
            clear hc3 hf3
            go_wp2_with fail
            refine (specRank_is p q _ _ true _ rfl HB.out).mono ?_
            rintro e w4 ⟨rfl, hh4⟩
            obtain ⟨hc4, hf4⟩ := bcell hh4
            have hz4 := hh4.size
            try simp only [World.size_alloc] at hz4
            have hz4_0 : w1.heap.size < w4.heap.size := by omega
            have kb4_0_0 : w4.cell? ⟨w1.heap.size, 0, none⟩ = some (.int .i64 p) := by go_simp
            have kf4_0_0 : w4.frozen? ⟨w1.heap.size, 0, none⟩ = false := by go_simp
            have kb4_0_1 : w4.cell? ⟨w1.heap.size, 1, none⟩ = some (.int .i64 q) := by go_simp
            have kf4_0_1 : w4.frozen? ⟨w1.heap.size, 1, none⟩ = false := by go_simp
            clear hc4 hf4
            go_wp2_with fail
            refine (implFarFirst_at p q k t _ _ _ rfl HP.out (by omega) (by omega) (by omega) rfl).mono ?_
            rintro e w5 ⟨rfl, hh5⟩
            obtain ⟨hc5, hf5⟩ := bcell hh5
            have hz5 := hh5.size
            try simp only [World.size_alloc] at hz5
            have hz5_0 : w1.heap.size < w5.heap.size := by omega
            have kb5_0_0 : w5.cell? ⟨w1.heap.size, 0, none⟩ = some (.int .i64 p) := by go_simp
            have kf5_0_0 : w5.frozen? ⟨w1.heap.size, 0, none⟩ = false := by go_simp
            have kb5_0_1 : w5.cell? ⟨w1.heap.size, 1, none⟩ = some (.int .i64 q) := by go_simp
            have kf5_0_1 : w5.frozen? ⟨w1.heap.size, 1, none⟩ = false := by go_simp
            clear hc5 hf5
            go_wp2_with fail
            refine (implDivides_is p q _ _ true _ HZ.out).mono ?_
            rintro e w6 ⟨rfl, hh6⟩
            obtain ⟨hc6, hf6⟩ := bcell hh6
            have hz6 := hh6.size
            try simp only [World.size_alloc] at hz6
            have hz6_0 : w1.heap.size < w6.heap.size := by omega
            have kb6_0_0 : w6.cell? ⟨w1.heap.size, 0, none⟩ = some (.int .i64 p) := by go_simp
            have kf6_0_0 : w6.frozen? ⟨w1.heap.size, 0, none⟩ = false := by go_simp
            have kb6_0_1 : w6.cell? ⟨w1.heap.size, 1, none⟩ = some (.int .i64 q) := by go_simp
            have kf6_0_1 : w6.frozen? ⟨w1.heap.size, 1, none⟩ = false := by go_simp
            clear hc6 hf6
            go_wp2
            go_ret
            exact ⟨rfl, by (repeat (first | exact Below.refl _ _ | refine Below.setCell ?_ (by first | omega | (simp <;> omega)) _ | refine Below.alloc ?_ (by first | omega | (simp <;> omega)) _ | refine Below.drew ?_ | refine Below.trans ?_ (Below.mono (by assumption) (by first | omega | (simp <;> omega))) | refine Below.grown ?_ (by assumption) (by first | omega | (simp <;> omega)) (fun k e => by cases e; first | omega | (simp <;> omega))))⟩
end Go.Proofs.Ytgipkcbmanjpcaa
namespace Go.Proofs.Ytgipkcbmanjpcaa
open Go.RowKit
/-- What a list of numbers of a rank keeps. -/
def RanksOk (p q n : Int) (L : List Nat) : Prop :=
  L.length ≤ 101 ∧ (∀ i, i < L.length → 1 ≤ L.getD i 0 ∧ L.getD i 0 ≤ 100 ∧ rankB p q (L.getD i 0 : Nat) = true ∧ rankV p q (L.getD i 0 : Nat) = n) ∧ (∀ i, i + 1 < L.length → L.getD i 0 < L.getD (i + 1) 0)
theorem sameL_ok (p q n : Int) : RanksOk p q n (sameL p q n) := by
  cases h : inB n 1 200 with
  | false =>
    rw [sameL, if_neg (by simp [h])]
    exact ⟨by simp, fun i h => by simp at h, fun i h => by simp at h⟩
  | true =>
    obtain ⟨n1, n2⟩ := inB_true h
    obtain ⟨k, rfl⟩ := Int.eq_ofNat_of_zero_le (show 0 ≤ n by omega)
    rw [sameL, if_pos h, Int.toNat_natCast]
    refine ⟨holdL_len _ _, fun i h => ?_, fun i h => hold_lt _ _ _ _ (by omega) h⟩
    obtain ⟨h1, h2⟩ := hold_at (sameB p q k) 101 i h
    have h3 : 1 ≤ (holdL (sameB p q k) 101).getD i 0 ∧ rankB p q ((holdL (sameB p q k) 101).getD i 0 : Nat) = true ∧ rankN p q ((holdL (sameB p q k) 101).getD i 0) = k := by simpa [sameB] using h2
    exact ⟨h3.1, by omega, h3.2.1, by rw [rankV_is h3.2.1, h3.2.2]⟩
theorem rank_first {p q : Int} {x k : Nat} (h : rankB p q x = true) (hr : rankV p q x = k) : (row p q 0 1 k).tmod (x : Int) = 0 := by
  obtain ⟨_, _, _, _, y, e, y1, _, ha⟩ := rankB_true h
  obtain rfl : x = y := by omega
  rw [rankV_is h] at hr
  refine Int.tmod_eq_zero_of_dvd ((rankN_dvd x y1 ha k).2 ?_)
  rw [show rankN p q x = k by omega]
  exact Nat.dvd_refl k
set_option maxRecDepth 100000 in
set_option maxHeartbeats 8000000 in
theorem fnSameRanks_walk (a : Option Addr) (len cap : Nat) (z : List Int) (w : World) (w0 : IsRow w a len cap z) :
    Calls Try.prog 5 #[.slice a len cap] w fun e w' => e = .returned (.bool true) ∧ Below w.heap.size w w' := by
  by_cases hbig : 1048576 < len
  · go_enter Try.func5, Try.ntmps5
    go_wp2
    go_ret
    exact ⟨rfl, Below.refl _ _⟩
  · have hsm : len ≤ 1048576 := by omega
    go_enter Try.func5, Try.ntmps5
    go_wp2_with fail
    refine (drawSameRanks_any _ _ _ _ z w0).mono ?_
    rintro e w1 ⟨p, q, n, rfl, hh1⟩
    have hz1 := hh1.size
    obtain ⟨hc1, hf1⟩ := bcell hh1
    have hOk := sameL_ok p q n
    obtain ⟨LL, hLL⟩ : ∃ LL, sameL p q n = LL := ⟨_, rfl⟩
    rw [hLL] at hOk
    obtain ⟨k0, k1, k2⟩ := hOk
    obtain ⟨N, hN⟩ : ∃ N, LL.length = N := ⟨_, rfl⟩
    rw [hN] at k0 k1 k2
    have K1 := Lib.hid k1
    have HAS := Lib.hid (show ∀ i, i + 1 < N → ((LL.getD i 0 : Nat) : Int) < ((LL.getD (i + 1) 0 : Nat) : Int) from fun i h => by have := k2 i h; omega)
    have HLL := Lib.hid hLL
    have HNN := Lib.hid hN
    clear k1 k2 hLL hN
    go_wp2_with fail
    refine (implSame_any p q _ _).mono ?_
    rintro e w2 ⟨u2, rfl, hI2, hh2⟩
    obtain ⟨hc2, hf2⟩ := bcell hh2
    have hz2 := hh2.size
    try simp only [World.size_alloc] at hz2
    have hz2_0 : w1.heap.size < w2.heap.size := by omega
    have kb2_0_0 : w2.cell? ⟨w1.heap.size, 0, none⟩ = some (.int .i64 p) := by go_simp
    have kf2_0_0 : w2.frozen? ⟨w1.heap.size, 0, none⟩ = false := by go_simp
    have kb2_0_1 : w2.cell? ⟨w1.heap.size, 1, none⟩ = some (.int .i64 q) := by go_simp
    have kf2_0_1 : w2.frozen? ⟨w1.heap.size, 1, none⟩ = false := by go_simp
    clear hc2 hf2
    go_wp2_with fail
    refine (specSame_any p q _ _).mono ?_
    rintro e w3 ⟨u3, rfl, hI3, hh3⟩
    obtain ⟨hc3, hf3⟩ := bcell hh3
    have hz3 := hh3.size
    try simp only [World.size_alloc] at hz3
    have hz3_0 : w1.heap.size < w3.heap.size := by omega
    have kb3_0_0 : w3.cell? ⟨w1.heap.size, 0, none⟩ = some (.int .i64 p) := by go_simp
    have kf3_0_0 : w3.frozen? ⟨w1.heap.size, 0, none⟩ = false := by go_simp
    have kb3_0_1 : w3.cell? ⟨w1.heap.size, 1, none⟩ = some (.int .i64 q) := by go_simp
    have kf3_0_1 : w3.frozen? ⟨w1.heap.size, 1, none⟩ = false := by go_simp
    clear hc3 hf3
    rw [HLL.out, HNN.out] at hI2 hI3
    go_wp2_with fail
    refine (sameInts_same _ _ _ _ _ _ _ _ _ (hI2.below hh3 (Nat.le_refl _)) hI3 (by omega)).mono ?_
    rintro e w4 ⟨rfl, hh4⟩
    obtain ⟨hc4, hf4⟩ := bcell hh4
    have hz4 := hh4.size
    try simp only [World.size_alloc] at hz4
    have hz4_0 : w1.heap.size < w4.heap.size := by omega
    have kb4_0_0 : w4.cell? ⟨w1.heap.size, 0, none⟩ = some (.int .i64 p) := by go_simp
    have kf4_0_0 : w4.frozen? ⟨w1.heap.size, 0, none⟩ = false := by go_simp
    have kb4_0_1 : w4.cell? ⟨w1.heap.size, 1, none⟩ = some (.int .i64 q) := by go_simp
    have kf4_0_1 : w4.frozen? ⟨w1.heap.size, 1, none⟩ = false := by go_simp
    clear hc4 hf4
    have HI := Lib.hid (hI2.below (show Below w2.heap.size w2 w4 by (repeat (first | exact Below.refl _ _ | refine Below.setCell ?_ (by first | omega | (simp <;> omega)) _ | refine Below.alloc ?_ (by first | omega | (simp <;> omega)) _ | refine Below.drew ?_ | refine Below.trans ?_ (Below.mono (by assumption) (by first | omega | (simp <;> omega))) | refine Below.grown ?_ (by assumption) (by first | omega | (simp <;> omega)) (fun k e => by cases e; first | omega | (simp <;> omega))))) (Nat.le_refl _))
    have H4 := Lib.hid (show Below w.heap.size w w4 by (repeat (first | exact Below.refl _ _ | refine Below.setCell ?_ (by first | omega | (simp <;> omega)) _ | refine Below.alloc ?_ (by first | omega | (simp <;> omega)) _ | refine Below.drew ?_ | refine Below.trans ?_ (Below.mono (by assumption) (by first | omega | (simp <;> omega))) | refine Below.grown ?_ (by assumption) (by first | omega | (simp <;> omega)) (fun k e => by cases e; first | omega | (simp <;> omega)))))
    clear hI2 hI3 hc1 hf1 hh1 hh2 hh3 hh4 hz2 hz3 kb2_0_0 kf2_0_0 kb2_0_1 kf2_0_1 kb3_0_0 kf3_0_0 kb3_0_1 kf3_0_1 hz2_0 hz3_0 hsm w0
    obtain ⟨a2, c2, rfl, hC2, hs2⟩ := HI.out
    go_wp2_with fail
    go_loopw [6] (fun c wr => ∃ i : Nat, i ≤ N ∧ c = .int .i64 i ∧ Below w4.heap.size w4 wr) (fun c _ => 110 - (intOf c).toNat)
    case atStart => exact ⟨0, by omega, rfl, Below.refl _ _⟩
    case round =>
      obtain ⟨i, hi, rfl, hB⟩ := hrel
      by_cases hlt : i < N
      · rcases hs2 with hs2 | ⟨g2, o2, rfl, hg1, hg2, hcl, hfl⟩
        · omega
        obtain ⟨x, hx⟩ : ∃ x, LL.getD i 0 = x := ⟨_, rfl⟩
        obtain ⟨x1, x2, x3, x4⟩ := K1.out i hlt
        have c1 : wr.cell? ⟨g2, o2 + i, none⟩ = some (.int .i64 (x : Int)) := by rw [← hx]; exact (hB.cell (p := ⟨g2, o2 + i, none⟩) (by show g2 < _; omega)).trans (hcl i hlt)
        have kp : wr.cell? ⟨w1.heap.size, 0, none⟩ = some (.int .i64 p) := cell_below hB kb4_0_0
        have kq : wr.cell? ⟨w1.heap.size, 1, none⟩ = some (.int .i64 q) := cell_below hB kb4_0_1
        rw [hx] at x1 x2 x3 x4
        have HXB := Lib.hid x3
        have HXR := Lib.hid x4
        have HF := Lib.hid (fun k : Nat => rank_first (k := k) x3)
        have hin : (i : Int) < (N : Int) := by omega
        have ix0 : (0 : Int) ≤ (i : Int) := by omega
        have hxp : (1 : Int) ≤ (x : Int) := by omega
        have hxz : ((x : Int) == 0) = false := by simp; omega
        have hsz := hB.size
        clear hcl hfl hx x3 x4
        obtain ⟨S, hSd⟩ : ∃ S : World → Prop, (fun V => Below wr.heap.size wr V) = S := ⟨_, rfl⟩
        have hkeep : ∀ V V' : World, S V → Below V.heap.size V V' → S V' := by rw [← hSd]; exact fun V V' h hb => h.trans (hb.mono h.size)
        have gk0 : ∀ iq : KeptBy S, iq.world.cell? ⟨w1.heap.size, 0, none⟩ = some (.int .i64 p) := by rw [← hSd]; exact fun iq => cell_below iq.ok kp
        have gk1 : ∀ iq : KeptBy S, iq.world.cell? ⟨w1.heap.size, 1, none⟩ = some (.int .i64 q) := by rw [← hSd]; exact fun iq => cell_below iq.ok kq
        have gk2 : ∀ iq : KeptBy S, iq.world.cell? ⟨g2, o2 + i, none⟩ = some (.int .i64 (x : Int)) := by rw [← hSd]; exact fun iq => cell_below iq.ok c1
        have gkn : Nonempty (KeptBy S) := ⟨⟨wr.drew, by rw [← hSd]; exact (Below.refl _ _).drew⟩⟩
        go_wp2_with fail
        refine wp_region_kept (S := S) (by rw [← hSd]; exact (Below.refl _ _).drew) (by kernel_rfl) (by kernel_rfl) ?_
        repeat (go_big_quiet_step ((first | (go_at_call 12; refine (implRank_is p q (x : Int) n true _ HXR.out HXB.out).mono ?_; rintro e w' ⟨rfl, hhw⟩; exact ⟨rfl, ⟨w', hkeep _ _ (KeptBy.ok _) hhw⟩, rfl⟩) | fail)))
        refine wpQuiet_nil ?_
        rintro wz ⟨iz, hwz⟩
        have bwz : Below wr.heap.size wr wz := by
          have this : S wz := by rw [hwz]; exact iz.ok
          rw [← hSd] at this
          exact this
        clear hwz iz gkn hkeep hSd gk0 gk1 gk2
        have kpz : wz.cell? ⟨w1.heap.size, 0, none⟩ = some (.int .i64 p) := cell_below bwz kp
        have kqz : wz.cell? ⟨w1.heap.size, 1, none⟩ = some (.int .i64 q) := cell_below bwz kq
        cases hat : atB p q n with
        | true =>
          have hpn : pairB p q = true ∧ placeB n = true := by simpa [atB] using hat
          obtain ⟨n0, n1⟩ := placeB_true hpn.2
          obtain ⟨k, rfl⟩ := Int.eq_ofNat_of_zero_le n0
          have HP := Lib.hid hpn.1
          have hmt := HF.out k HXR.out
          clear hat hpn
          go_wp2_with fail
          refine (implFirst_at p q k _ _ _ rfl HP.out (by omega) rfl).mono ?_
          rintro e w5 ⟨rfl, hh5⟩
          have c5 : w5.cell? ⟨g2, o2 + i, none⟩ = some (.int .i64 (x : Int)) := cell_below hh5 (cell_below bwz c1)
          clear kp kq c1 kpz kqz
          go_wp2
          go_roundw
          case rel => exact ⟨i + 1, by omega, congrArg (Value.int .i64) (by omega), (hB.trans (bwz.mono hB.size)).trans (hh5.mono (by have := bwz.size; omega))⟩
          case measure => simp [intOf]; omega
        | false =>
          have HA := Lib.hid hat
          clear hat
          go_wp2_with fail
          refine (implFirst_no p q _ _ HA.out).mono ?_
          rintro e w5 ⟨rfl, hh5⟩
          have c5 : w5.cell? ⟨g2, o2 + i, none⟩ = some (.int .i64 (x : Int)) := cell_below hh5 (cell_below bwz c1)
          clear kp kq c1 kpz kqz
          go_wp2
          go_roundw
          case rel => exact ⟨i + 1, by omega, congrArg (Value.int .i64) (by omega), (hB.trans (bwz.mono hB.size)).trans (hh5.mono (by have := bwz.size; omega))⟩
          case measure => simp [intOf]; omega
      · obtain rfl : i = N := by omega
        clear hs2
        go_wp2_with fail
        refine (ascend_yes _ _ _ _ _ _ (HI.out.below hB hC2) (by omega) HAS.out).mono ?_
        rintro e w5 ⟨rfl, hh5⟩
        go_wp2_with fail
        refine (alive_any _).mono ?_
        rintro e w6 ⟨rfl, hh6⟩
        go_wp2
        go_ret
        exact ⟨rfl, (((H4.out.trans (hB.mono (by have := H4.out.size; omega))).trans (hh5.mono (by have := H4.out.size; have := hB.size; omega))).trans (hh6.mono (by have := H4.out.size; have := hB.size; have := hh5.size; omega)))⟩
end Go.Proofs.Ytgipkcbmanjpcaa
namespace Go.Proofs.Ytgipkcbmanjpcaa
open Go.RowKit
theorem sameL_len (p q n : Int) : (sameL p q n).length ≤ 101 := by
  rw [sameL]; split
  · exact holdL_len _ _
  · exact Nat.zero_le _
set_option maxHeartbeats 1000000 in
theorem fnExactRankOf_walk (a b n : Int) (w : World) (_ : (Lit.int .i64 a).wf = true) (_ : (Lit.int .i64 b).wf = true) (_ : (Lit.int .i64 n).wf = true) :
    Calls Try.prog 7 #[pr a b, .int .i64 n] w fun e w' => e = .returned (.bool true) ∧ Below w.heap.size w w' := by
  go_enter Try.func7, Try.ntmps7
  go_wp2_with fail
  refine (toPair_any _ _ _).mono ?_
  rintro e w1 ⟨rfl, hh1⟩
  obtain ⟨hc1, hf1⟩ := bcell hh1
  have hz1 := hh1.size
  try simp only [World.size_alloc] at hz1
  have hz1_0 : w.heap.size < w1.heap.size := by omega
  have kb1_0_0 : w1.cell? ⟨w.heap.size, 0, none⟩ = some (.int .i64 a) := by go_simp
  have kf1_0_0 : w1.frozen? ⟨w.heap.size, 0, none⟩ = false := by go_simp
  have kb1_0_1 : w1.cell? ⟨w.heap.size, 1, none⟩ = some (.int .i64 b) := by go_simp
  have kf1_0_1 : w1.frozen? ⟨w.heap.size, 1, none⟩ = false := by go_simp
  clear hc1 hf1
  go_wp2_with fail
  refine (specRank_any _ _ _ _).mono ?_
  rintro e w2 ⟨rfl, hh2⟩
  obtain ⟨hc2, hf2⟩ := bcell hh2
  have hz2 := hh2.size
  try simp only [World.size_alloc] at hz2
  have hz2_0 : w.heap.size < w2.heap.size := by omega
  have kb2_0_0 : w2.cell? ⟨w.heap.size, 0, none⟩ = some (.int .i64 a) := by go_simp
  have kf2_0_0 : w2.frozen? ⟨w.heap.size, 0, none⟩ = false := by go_simp
  have kb2_0_1 : w2.cell? ⟨w.heap.size, 1, none⟩ = some (.int .i64 b) := by go_simp
  have kf2_0_1 : w2.frozen? ⟨w.heap.size, 1, none⟩ = false := by go_simp
  clear hc2 hf2
  go_wp2_with fail
  refine (toPair_any _ _ _).mono ?_
  rintro e w3 ⟨rfl, hh3⟩
  obtain ⟨hc3, hf3⟩ := bcell hh3
  have hz3 := hh3.size
  try simp only [World.size_alloc] at hz3
  have hz3_0 : w.heap.size < w3.heap.size := by omega
  have kb3_0_0 : w3.cell? ⟨w.heap.size, 0, none⟩ = some (.int .i64 a) := by go_simp
  have kf3_0_0 : w3.frozen? ⟨w.heap.size, 0, none⟩ = false := by go_simp
  have kb3_0_1 : w3.cell? ⟨w.heap.size, 1, none⟩ = some (.int .i64 b) := by go_simp
  have kf3_0_1 : w3.frozen? ⟨w.heap.size, 1, none⟩ = false := by go_simp
  clear hc3 hf3
  go_wp2_with fail
  refine (implRank_any _ _ _ _).mono ?_
  rintro e w4 ⟨rfl, hh4⟩
  obtain ⟨hc4, hf4⟩ := bcell hh4
  have hz4 := hh4.size
  try simp only [World.size_alloc] at hz4
  have hz4_0 : w.heap.size < w4.heap.size := by omega
  have kb4_0_0 : w4.cell? ⟨w.heap.size, 0, none⟩ = some (.int .i64 a) := by go_simp
  have kf4_0_0 : w4.frozen? ⟨w.heap.size, 0, none⟩ = false := by go_simp
  have kb4_0_1 : w4.cell? ⟨w.heap.size, 1, none⟩ = some (.int .i64 b) := by go_simp
  have kf4_0_1 : w4.frozen? ⟨w.heap.size, 1, none⟩ = false := by go_simp
  clear hc4 hf4
  go_wp2
  go_ret
  exact ⟨rfl, by (repeat (first | exact Below.refl _ _ | refine Below.setCell ?_ (by first | omega | (simp <;> omega)) _ | refine Below.alloc ?_ (by first | omega | (simp <;> omega)) _ | refine Below.drew ?_ | refine Below.trans ?_ (Below.mono (by assumption) (by first | omega | (simp <;> omega))) | refine Below.grown ?_ (by assumption) (by first | omega | (simp <;> omega)) (fun k e => by cases e; first | omega | (simp <;> omega))))⟩
set_option maxHeartbeats 1000000 in
theorem fnExactDividesAt_walk (a b n m : Int) (w : World) (_ : (Lit.int .i64 a).wf = true) (_ : (Lit.int .i64 b).wf = true) (_ : (Lit.int .i64 n).wf = true) (_ : (Lit.int .i64 m).wf = true) :
    Calls Try.prog 8 #[pr a b, .int .i64 n, .int .i64 m] w fun e w' => e = .returned (.bool true) ∧ Below w.heap.size w w' := by
  go_enter Try.func8, Try.ntmps8
  go_wp2_with fail
  refine (toPair_any _ _ _).mono ?_
  rintro e w1 ⟨rfl, hh1⟩
  obtain ⟨hc1, hf1⟩ := bcell hh1
  have hz1 := hh1.size
  try simp only [World.size_alloc] at hz1
  have hz1_0 : w.heap.size < w1.heap.size := by omega
  have kb1_0_0 : w1.cell? ⟨w.heap.size, 0, none⟩ = some (.int .i64 a) := by go_simp
  have kf1_0_0 : w1.frozen? ⟨w.heap.size, 0, none⟩ = false := by go_simp
  have kb1_0_1 : w1.cell? ⟨w.heap.size, 1, none⟩ = some (.int .i64 b) := by go_simp
  have kf1_0_1 : w1.frozen? ⟨w.heap.size, 1, none⟩ = false := by go_simp
  clear hc1 hf1
  go_wp2_with fail
  refine (specDivides_any _ _ _ _ _).mono ?_
  rintro e w2 ⟨rfl, hh2⟩
  obtain ⟨hc2, hf2⟩ := bcell hh2
  have hz2 := hh2.size
  try simp only [World.size_alloc] at hz2
  have hz2_0 : w.heap.size < w2.heap.size := by omega
  have kb2_0_0 : w2.cell? ⟨w.heap.size, 0, none⟩ = some (.int .i64 a) := by go_simp
  have kf2_0_0 : w2.frozen? ⟨w.heap.size, 0, none⟩ = false := by go_simp
  have kb2_0_1 : w2.cell? ⟨w.heap.size, 1, none⟩ = some (.int .i64 b) := by go_simp
  have kf2_0_1 : w2.frozen? ⟨w.heap.size, 1, none⟩ = false := by go_simp
  clear hc2 hf2
  go_wp2_with fail
  refine (toPair_any _ _ _).mono ?_
  rintro e w3 ⟨rfl, hh3⟩
  obtain ⟨hc3, hf3⟩ := bcell hh3
  have hz3 := hh3.size
  try simp only [World.size_alloc] at hz3
  have hz3_0 : w.heap.size < w3.heap.size := by omega
  have kb3_0_0 : w3.cell? ⟨w.heap.size, 0, none⟩ = some (.int .i64 a) := by go_simp
  have kf3_0_0 : w3.frozen? ⟨w.heap.size, 0, none⟩ = false := by go_simp
  have kb3_0_1 : w3.cell? ⟨w.heap.size, 1, none⟩ = some (.int .i64 b) := by go_simp
  have kf3_0_1 : w3.frozen? ⟨w.heap.size, 1, none⟩ = false := by go_simp
  clear hc3 hf3
  go_wp2_with fail
  refine (implDivides_any _ _ _ _ _).mono ?_
  rintro e w4 ⟨rfl, hh4⟩
  obtain ⟨hc4, hf4⟩ := bcell hh4
  have hz4 := hh4.size
  try simp only [World.size_alloc] at hz4
  have hz4_0 : w.heap.size < w4.heap.size := by omega
  have kb4_0_0 : w4.cell? ⟨w.heap.size, 0, none⟩ = some (.int .i64 a) := by go_simp
  have kf4_0_0 : w4.frozen? ⟨w.heap.size, 0, none⟩ = false := by go_simp
  have kb4_0_1 : w4.cell? ⟨w.heap.size, 1, none⟩ = some (.int .i64 b) := by go_simp
  have kf4_0_1 : w4.frozen? ⟨w.heap.size, 1, none⟩ = false := by go_simp
  clear hc4 hf4
  go_wp2
  go_ret
  exact ⟨rfl, by (repeat (first | exact Below.refl _ _ | refine Below.setCell ?_ (by first | omega | (simp <;> omega)) _ | refine Below.alloc ?_ (by first | omega | (simp <;> omega)) _ | refine Below.drew ?_ | refine Below.trans ?_ (Below.mono (by assumption) (by first | omega | (simp <;> omega))) | refine Below.grown ?_ (by assumption) (by first | omega | (simp <;> omega)) (fun k e => by cases e; first | omega | (simp <;> omega))))⟩
set_option maxRecDepth 100000 in
set_option maxHeartbeats 4000000 in
theorem fnExactSameRanks_walk (a b n : Int) (w : World) (_ : (Lit.int .i64 a).wf = true) (_ : (Lit.int .i64 b).wf = true) (_ : (Lit.int .i64 n).wf = true) :
    Calls Try.prog 9 #[pr a b, .int .i64 n] w fun e w' => e = .returned (.bool true) ∧ Below w.heap.size w w' := by
  have hN : (sameL a b n).length ≤ 1000000 := Nat.le_trans (sameL_len a b n) (by omega)
  go_enter Try.func9, Try.ntmps9
  go_wp2_with fail
  refine (toPair_any _ _ _).mono ?_
  rintro e w1 ⟨rfl, hh1⟩
  obtain ⟨hc1, hf1⟩ := bcell hh1
  have hz1 := hh1.size
  try simp only [World.size_alloc] at hz1
  have hz1_0 : w.heap.size < w1.heap.size := by omega
  have kb1_0_0 : w1.cell? ⟨w.heap.size, 0, none⟩ = some (.int .i64 a) := by go_simp
  have kf1_0_0 : w1.frozen? ⟨w.heap.size, 0, none⟩ = false := by go_simp
  have kb1_0_1 : w1.cell? ⟨w.heap.size, 1, none⟩ = some (.int .i64 b) := by go_simp
  have kf1_0_1 : w1.frozen? ⟨w.heap.size, 1, none⟩ = false := by go_simp
  clear hc1 hf1
  go_wp2_with fail
  refine (specSame_any _ _ _ _).mono ?_
  rintro e w2 ⟨u2, rfl, hI2, hh2⟩
  obtain ⟨hc2, hf2⟩ := bcell hh2
  have hz2 := hh2.size
  try simp only [World.size_alloc] at hz2
  have hz2_0 : w.heap.size < w2.heap.size := by omega
  have kb2_0_0 : w2.cell? ⟨w.heap.size, 0, none⟩ = some (.int .i64 a) := by go_simp
  have kf2_0_0 : w2.frozen? ⟨w.heap.size, 0, none⟩ = false := by go_simp
  have kb2_0_1 : w2.cell? ⟨w.heap.size, 1, none⟩ = some (.int .i64 b) := by go_simp
  have kf2_0_1 : w2.frozen? ⟨w.heap.size, 1, none⟩ = false := by go_simp
  clear hc2 hf2
  go_wp2_with fail
  refine (toPair_any _ _ _).mono ?_
  rintro e w3 ⟨rfl, hh3⟩
  obtain ⟨hc3, hf3⟩ := bcell hh3
  have hz3 := hh3.size
  try simp only [World.size_alloc] at hz3
  have hz3_0 : w.heap.size < w3.heap.size := by omega
  have kb3_0_0 : w3.cell? ⟨w.heap.size, 0, none⟩ = some (.int .i64 a) := by go_simp
  have kf3_0_0 : w3.frozen? ⟨w.heap.size, 0, none⟩ = false := by go_simp
  have kb3_0_1 : w3.cell? ⟨w.heap.size, 1, none⟩ = some (.int .i64 b) := by go_simp
  have kf3_0_1 : w3.frozen? ⟨w.heap.size, 1, none⟩ = false := by go_simp
  clear hc3 hf3
  go_wp2_with fail
  refine (implSame_any _ _ _ _).mono ?_
  rintro e w4 ⟨u4, rfl, hI4, hh4⟩
  obtain ⟨hc4, hf4⟩ := bcell hh4
  have hz4 := hh4.size
  try simp only [World.size_alloc] at hz4
  have hz4_0 : w.heap.size < w4.heap.size := by omega
  have kb4_0_0 : w4.cell? ⟨w.heap.size, 0, none⟩ = some (.int .i64 a) := by go_simp
  have kf4_0_0 : w4.frozen? ⟨w.heap.size, 0, none⟩ = false := by go_simp
  have kb4_0_1 : w4.cell? ⟨w.heap.size, 1, none⟩ = some (.int .i64 b) := by go_simp
  have kf4_0_1 : w4.frozen? ⟨w.heap.size, 1, none⟩ = false := by go_simp
  clear hc4 hf4
  go_wp2_with fail
  refine (eqIntS_same _ _ _ _ _ _ _ _ _ hI4 (hI2.below (show Below w2.heap.size w2 w4 by (repeat (first | exact Below.refl _ _ | refine Below.setCell ?_ (by first | omega | (simp <;> omega)) _ | refine Below.alloc ?_ (by first | omega | (simp <;> omega)) _ | refine Below.drew ?_ | refine Below.trans ?_ (Below.mono (by assumption) (by first | omega | (simp <;> omega))) | refine Below.grown ?_ (by assumption) (by first | omega | (simp <;> omega)) (fun k e => by cases e; first | omega | (simp <;> omega))))) (Nat.le_refl _)) hN).mono ?_
  rintro e w5 ⟨rfl, hh5⟩
  obtain ⟨hc5, hf5⟩ := bcell hh5
  have hz5 := hh5.size
  try simp only [World.size_alloc] at hz5
  have hz5_0 : w.heap.size < w5.heap.size := by omega
  have kb5_0_0 : w5.cell? ⟨w.heap.size, 0, none⟩ = some (.int .i64 a) := by go_simp
  have kf5_0_0 : w5.frozen? ⟨w.heap.size, 0, none⟩ = false := by go_simp
  have kb5_0_1 : w5.cell? ⟨w.heap.size, 1, none⟩ = some (.int .i64 b) := by go_simp
  have kf5_0_1 : w5.frozen? ⟨w.heap.size, 1, none⟩ = false := by go_simp
  clear hc5 hf5
  go_wp2_with fail
  refine (markIntS_any _ _ _ _ _ 1 _ (hI4.below (show Below w4.heap.size w4 w5 by exact hh5) (Nat.le_refl _)) hN (by omega) (by omega)).mono ?_
  rintro e w6 ⟨rfl, hI6, hM6⟩
  have hz6 : w6.heap.size = w5.heap.size := hM6.1
  have kb6_0_0 : w6.cell? ⟨w.heap.size, 0, none⟩ = some (.int .i64 a) := by
    obtain ⟨_, row, hg, hr⟩ := hM6
    exact (hg.cell_far ⟨w.heap.size, 0, none⟩ (by show w.heap.size < _; omega) (fun e => by have := hr w.heap.size e.symm; omega)).trans kb5_0_0
  have kb6_0_1 : w6.cell? ⟨w.heap.size, 1, none⟩ = some (.int .i64 b) := by
    obtain ⟨_, row, hg, hr⟩ := hM6
    exact (hg.cell_far ⟨w.heap.size, 1, none⟩ (by show w.heap.size < _; omega) (fun e => by have := hr w.heap.size e.symm; omega)).trans kb5_0_1
  have kf6_0_0 : w6.frozen? ⟨w.heap.size, 0, none⟩ = false := by
    obtain ⟨_, row, hg, hr⟩ := hM6
    exact (hg.frozen_far ⟨w.heap.size, 0, none⟩ (by show w.heap.size < _; omega) (fun e => by have := hr w.heap.size e.symm; omega)).trans kf5_0_0
  have kf6_0_1 : w6.frozen? ⟨w.heap.size, 1, none⟩ = false := by
    obtain ⟨_, row, hg, hr⟩ := hM6
    exact (hg.frozen_far ⟨w.heap.size, 1, none⟩ (by show w.heap.size < _; omega) (fun e => by have := hr w.heap.size e.symm; omega)).trans kf5_0_1
  have hB6 : Below w3.heap.size w3 w6 := below_marked (show Below w3.heap.size w3 w5 by (repeat (first | exact Below.refl _ _ | refine Below.setCell ?_ (by first | omega | (simp <;> omega)) _ | refine Below.alloc ?_ (by first | omega | (simp <;> omega)) _ | refine Below.drew ?_ | refine Below.trans ?_ (Below.mono (by assumption) (by first | omega | (simp <;> omega))) | refine Below.grown ?_ (by assumption) (by first | omega | (simp <;> omega)) (fun k e => by cases e; first | omega | (simp <;> omega))))) hM6 (Nat.le_refl _) (by omega)
  have hIb := (hI2.below (show Below w2.heap.size w2 w5 by (repeat (first | exact Below.refl _ _ | refine Below.setCell ?_ (by first | omega | (simp <;> omega)) _ | refine Below.alloc ?_ (by first | omega | (simp <;> omega)) _ | refine Below.drew ?_ | refine Below.trans ?_ (Below.mono (by assumption) (by first | omega | (simp <;> omega))) | refine Below.grown ?_ (by assumption) (by first | omega | (simp <;> omega)) (fun k e => by cases e; first | omega | (simp <;> omega))))) (Nat.le_refl _)).marked hM6 (by omega)
  clear hM6
  go_wp2_with fail
  refine (heldIntS_any _ _ _ _ 1 _ hI6 hN (by omega) (by omega)).mono ?_
  rintro e wx ⟨rfl, rfl⟩
  go_wp2_with fail
  refine (toPair_any _ _ _).mono ?_
  rintro e w7 ⟨rfl, hh7⟩
  obtain ⟨hc7, hf7⟩ := bcell hh7
  have hz7 := hh7.size
  try simp only [World.size_alloc] at hz7
  have hz7_0 : w.heap.size < w7.heap.size := by omega
  have kb7_0_0 : w7.cell? ⟨w.heap.size, 0, none⟩ = some (.int .i64 a) := by go_simp
  have kf7_0_0 : w7.frozen? ⟨w.heap.size, 0, none⟩ = false := by go_simp
  have kb7_0_1 : w7.cell? ⟨w.heap.size, 1, none⟩ = some (.int .i64 b) := by go_simp
  have kf7_0_1 : w7.frozen? ⟨w.heap.size, 1, none⟩ = false := by go_simp
  clear hc7 hf7
  go_wp2_with fail
  refine (implSame_any _ _ _ _).mono ?_
  rintro e w8 ⟨u8, rfl, hI8, hh8⟩
  obtain ⟨hc8, hf8⟩ := bcell hh8
  have hz8 := hh8.size
  try simp only [World.size_alloc] at hz8
  have hz8_0 : w.heap.size < w8.heap.size := by omega
  have kb8_0_0 : w8.cell? ⟨w.heap.size, 0, none⟩ = some (.int .i64 a) := by go_simp
  have kf8_0_0 : w8.frozen? ⟨w.heap.size, 0, none⟩ = false := by go_simp
  have kb8_0_1 : w8.cell? ⟨w.heap.size, 1, none⟩ = some (.int .i64 b) := by go_simp
  have kf8_0_1 : w8.frozen? ⟨w.heap.size, 1, none⟩ = false := by go_simp
  clear hc8 hf8
  go_wp2_with fail
  refine (eqIntS_same _ _ _ _ _ _ _ _ _ hI8 (hIb.below (show Below w6.heap.size w6 w8 by (repeat (first | exact Below.refl _ _ | refine Below.setCell ?_ (by first | omega | (simp <;> omega)) _ | refine Below.alloc ?_ (by first | omega | (simp <;> omega)) _ | refine Below.drew ?_ | refine Below.trans ?_ (Below.mono (by assumption) (by first | omega | (simp <;> omega))) | refine Below.grown ?_ (by assumption) (by first | omega | (simp <;> omega)) (fun k e => by cases e; first | omega | (simp <;> omega))))) (by omega)) hN).mono ?_
  rintro e w9 ⟨rfl, hh9⟩
  obtain ⟨hc9, hf9⟩ := bcell hh9
  have hz9 := hh9.size
  try simp only [World.size_alloc] at hz9
  have hz9_0 : w.heap.size < w9.heap.size := by omega
  have kb9_0_0 : w9.cell? ⟨w.heap.size, 0, none⟩ = some (.int .i64 a) := by go_simp
  have kf9_0_0 : w9.frozen? ⟨w.heap.size, 0, none⟩ = false := by go_simp
  have kb9_0_1 : w9.cell? ⟨w.heap.size, 1, none⟩ = some (.int .i64 b) := by go_simp
  have kf9_0_1 : w9.frozen? ⟨w.heap.size, 1, none⟩ = false := by go_simp
  clear hc9 hf9
  go_wp2_with fail
  refine (heldIntS_any _ _ _ _ 1 _ (hI6.below (show Below w6.heap.size w6 w9 by (repeat (first | exact Below.refl _ _ | refine Below.setCell ?_ (by first | omega | (simp <;> omega)) _ | refine Below.alloc ?_ (by first | omega | (simp <;> omega)) _ | refine Below.drew ?_ | refine Below.trans ?_ (Below.mono (by assumption) (by first | omega | (simp <;> omega))) | refine Below.grown ?_ (by assumption) (by first | omega | (simp <;> omega)) (fun k e => by cases e; first | omega | (simp <;> omega))))) (by omega)) hN (by omega) (by omega)).mono ?_
  rintro e wx ⟨rfl, rfl⟩
  go_wp2
  go_ret
  exact ⟨rfl, by (repeat (first | exact Below.refl _ _ | refine Below.setCell ?_ (by first | omega | (simp <;> omega)) _ | refine Below.alloc ?_ (by first | omega | (simp <;> omega)) _ | refine Below.drew ?_ | refine Below.trans ?_ (Below.mono (by assumption) (by first | omega | (simp <;> omega))) | refine Below.grown ?_ (by assumption) (by first | omega | (simp <;> omega)) (fun k e => by cases e; first | omega | (simp <;> omega))))⟩
set_option maxHeartbeats 1000000 in
theorem fnExactLeastOver_walk (a b : Int) (w : World) (_ : (Lit.int .i64 a).wf = true) (_ : (Lit.int .i64 b).wf = true) :
    Calls Try.prog 10 #[.int .i64 a, .int .i64 b] w fun e w' => e = .returned (.bool true) ∧ Below w.heap.size w w' := by
  go_enter Try.func10, Try.ntmps10
  go_wp2_with fail
  refine (specLeast_any _ _ _).mono ?_
  rintro e wx ⟨rfl, rfl⟩
  go_wp2_with fail
  refine (implLeast_any _ _ _).mono ?_
  rintro e w2 ⟨rfl, hh2⟩
  obtain ⟨hc2, hf2⟩ := bcell hh2
  have hz2 := hh2.size
  try simp only [World.size_alloc] at hz2
  clear hc2 hf2
  go_wp2
  go_ret
  exact ⟨rfl, by (repeat (first | exact Below.refl _ _ | refine Below.setCell ?_ (by first | omega | (simp <;> omega)) _ | refine Below.alloc ?_ (by first | omega | (simp <;> omega)) _ | refine Below.drew ?_ | refine Below.trans ?_ (Below.mono (by assumption) (by first | omega | (simp <;> omega))) | refine Below.grown ?_ (by assumption) (by first | omega | (simp <;> omega)) (fun k e => by cases e; first | omega | (simp <;> omega))))⟩
end Go.Proofs.Ytgipkcbmanjpcaa
