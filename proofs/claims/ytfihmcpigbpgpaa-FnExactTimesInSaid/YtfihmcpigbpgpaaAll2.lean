/- Contracts and laws that the statement's proof stands on, one text behind the other. -/
import Derived.Test.YtfihmcpigbpgpaaAll1
import Derived.Test.YtfihmcpigbpgpaaHvRankParts
import Derived.Test.YtfihmcpigbpgpaaHvRankDraws
import Derived.Maps.OwnIn

namespace Go.Proofs.Ytfihmcpigbpgpaa
open Go.RowKit Go.Shelf
open Go.Maps (Keyed)
attribute [local go_sem] Oper.semAt_some
theorem intKeyed : Keyed Try.prog 3 := Maps.int_keyed Try.underlying3
theorem intZero (w : World) : (zeroValue 3).run Try.prog w = .ok (.int .i64 0) w := by kernel_rfl
theorem wf_nat {j : Nat} (h : j ≤ 1000000000) : (Lit.int .i64 (j : Int)).wf = true := WalkArith.wf_i64 (by omega)
theorem intKey {j : Nat} (h : j ≤ 1000000000) : keyOf Try.prog 3 (.int .i64 (j : Int)) = some (.int .i64 (j : Int)) := Maps.keyOf_int_mk Try.underlying3 (wf_nat h)
theorem intElem {j : Nat} (h : j ≤ 1000000000) : plainElem (H := Unit) Try.prog 3 (.int .i64 (j : Int)) = some (.lit (.int .i64 (j : Int)), []) := plainElem_int Try.underlying3 (wf_nat h)
/-- What is remembered is right. -/
def MemoOk (p q : Int) (D : DataW Unit) : Prop := ∀ j : Nat, Maps.has D (.int .i64 (j : Int)) = true → D.atKey (.int .i64 (j : Int)) (.lit (.int .i64 0)) = .lit (.int .i64 (rankN p q j : Nat))
theorem MemoOk.empty (p q : Int) : MemoOk p q (.map []) := fun j h => by cases h
theorem MemoOk.put {p q : Int} {D : DataW Unit} (h : MemoOk p q D) (hD : Maps.IsMap D) (j : Nat) : MemoOk p q (D.put (.int .i64 (j : Int)) (.lit (.int .i64 (rankN p q j : Nat)))) := by
  intro i hi
  by_cases he : i = j
  · subst he
    exact Maps.atKey_put_same hD (show WideAt.IsKeyLit (Lit.int .i64 (i : Int)) from trivial) _ _
  · have hne : (Lit.int .i64 (i : Int)) ≠ (Lit.int .i64 (j : Int)) := fun e => he (by injection e with _ e; omega)
    rw [Maps.has_put_other hne] at hi
    rw [Maps.atKey_put_other hne]
    exact h i hi
/-- What the closure holds: the box of the map, that of the pair; the map's block, of at most n entries. -/
def Memo (p q : Int) (K B b n : Nat) (W : World) : Prop :=
  (W.cell? ⟨K, 0, none⟩ = some (.map (some b)) ∧ W.cell? ⟨B, 0, none⟩ = some (.int .i64 p) ∧ W.cell? ⟨B, 1, none⟩ = some (.int .i64 q)) ∧
  ∃ D : DataW Unit, MemoOk p q D ∧ W.ownsMap Try.prog 3 (plainElem Try.prog 3) b n D
theorem grown_below {W W' : World} (h : Below W.heap.size W W') : W.grownBy W' none := ⟨h.os, h.tape, h.output, h.size, fun j hj _ => h.block j hj⟩
theorem Memo.below {p q : Int} {K B b n : Nat} {W W' : World} (h : Memo p q K B b n W) (hb : Below W.heap.size W W') : Memo p q K B b n W' := by
  obtain ⟨⟨x1, x2, x3⟩, D, x4, x5⟩ := h
  exact ⟨⟨cell_below hb x1, cell_below hb x2, cell_below hb x3⟩, D, x4, x5.kept (grown_below hb) (fun e => by cases e)⟩
theorem Memo.kept {p q : Int} {K B b n : Nat} {A V : World} {row : Option Nat} (h : Memo p q K B b n A) (hg : A.grownBy V row) (hr : ∀ r, row = some r → ∃ o : Obj, A.heap[r]? = some o ∧ o.isCells = false) (hne : some b ≠ row) : Memo p q K B b n V := by
  obtain ⟨⟨x1, x2, x3⟩, D, x4, x5⟩ := h
  exact ⟨⟨cell_kept x1 hg hr, cell_kept x2 hg hr, cell_kept x3 hg hr⟩, D, x4, x5.kept hg hne⟩
theorem Memo.set {p q : Int} {K B b n : Nat} {W : World} (h : Memo p q K B b n W) {S : Nat} (h1 : K < S) (h2 : B < S) (h3 : b < S) (o : Nat) (v : Value) : Memo p q K B b n (W.setCell ⟨S, o, none⟩ v) := by
  obtain ⟨⟨x1, x2, x3⟩, D, x4, x5⟩ := h
  exact ⟨⟨(set_other (by omega)).trans x1, (set_other (by omega)).trans x2, (set_other (by omega)).trans x3⟩, D, x4, x5.setCell (a := ⟨S, o, none⟩) (by show b ≠ S; omega) v⟩
theorem Memo.mono {p q : Int} {K B b n n' : Nat} {W : World} (h : Memo p q K B b n W) (hn : n ≤ n') : Memo p q K B b n' W := by
  obtain ⟨x0, D, x4, x5⟩ := h
  exact ⟨x0, D, x4, x5.mono hn⟩
theorem Memo.lt {p q : Int} {K B b n : Nat} {W : World} (h : Memo p q K B b n W) : K < W.heap.size ∧ B < W.heap.size ∧ b < W.heap.size := by
  obtain ⟨⟨x1, x2, x3⟩, D, x4, x5⟩ := h
  exact ⟨World.block_lt_of_cell? _ _ x1, World.block_lt_of_cell? _ _ x2, x5.lt⟩
theorem Memo.isMap {p q : Int} {K B b n : Nat} {W : World} (h : Memo p q K B b n W) : ∃ es c, W.heap[b]? = some (.map es c) := by
  obtain ⟨_, D, _, es, c, hb, _⟩ := h
  exact ⟨es, c, hb⟩
theorem cells_map {w : World} {x b : Nat} {o : Nat} {v : Value} (h : w.cell? ⟨x, o, none⟩ = some v) {es : Array MapEntry} {c : Nat} (hb : w.heap[b]? = some (.map es c)) : some x ≠ some b := by
  intro e
  injection e with e
  subst e
  simp [World.cell?, hb] at h
theorem length_prodL : ∀ L : List Nat, (∀ x ∈ L, 2 ≤ x) → L.length + 1 ≤ prodL L
  | [], _ => Nat.le_refl 1
  | x :: L, h => by
    have h1 := length_prodL L (fun y hy => h y (List.mem_cons_of_mem _ hy))
    have h2 := Nat.mul_le_mul (h x (List.mem_cons_self ..)) h1
    simp only [List.length_cons, prodL]
    omega
theorem ppL_len {n : Nat} (hn : 1 ≤ n) : (ppL n).length < n := by
  obtain ⟨a, b, _⟩ := ppL_spec hn
  have := length_prodL _ b
  omega
set_option maxHeartbeats 1000000 in
theorem ranksBy_any (p q : Int) (w : World) :
    Calls Try.prog 39 #[pr p q] w fun e w' => e = .returned (.func (.func 51) #[] #[.pointer (some ⟨w.heap.size + 1 + 1, 0, none⟩), .pointer (some ⟨w.heap.size, 0, none⟩)]) ∧ Memo p q (w.heap.size + 1 + 1) w.heap.size (w.heap.size + 1) 0 w' ∧ Below w.heap.size w w' := by
  have hmf : ∀ (fn : Fn) (first cap : Array Value) (w : World), (Instr.makeFunc fn first cap).run Try.prog w = .ok (.func fn first cap) w := fun _ _ _ _ => rfl
  have hmm := @run_makeMap Try.prog
  have hO := World.ownsMap_made (H := Unit) (w.alloc (.cells #[.int .i64 p, .int .i64 q] 33)) Try.prog 3 (plainElem Try.prog 3)
  rw [World.size_alloc] at hO
  have HO := Lib.hid hO
  clear hO
  go_enter Try.func39, Try.ntmps39
  go_wp2
  go_ret
  refine ⟨rfl, ⟨⟨by go_simp, by go_simp, by go_simp⟩, _, MemoOk.empty p q, ?_⟩, by (repeat (first | exact Below.refl _ _ | refine Below.setCell ?_ (by first | omega | (simp <;> omega)) _ | refine Below.alloc ?_ (by first | omega | (simp <;> omega)) _ | refine Below.drew ?_ | refine Below.trans ?_ (Below.mono (by assumption) (by first | omega | (simp <;> omega))) | refine Below.grown ?_ (by assumption) (by first | omega | (simp <;> omega)) (fun k e => by cases e; first | omega | (simp <;> omega))))⟩
  exact HO.out.alloc _
end Go.Proofs.Ytfihmcpigbpgpaa
namespace Go.Proofs.Ytfihmcpigbpgpaa
open Go.RowKit Go.Shelf
attribute [local go_sem] Oper.semAt_some
theorem wide_asks (k : FuncId) : Fence.wide.fn k = True := rfl
attribute [local go_sem] wide_asks
/-- A box that holds a number. -/
def NumBox (S : Nat) (v : Int) (W : World) : Prop := W.cell? ⟨S, 0, none⟩ = some (.int .i64 v) ∧ W.frozen? ⟨S, 0, none⟩ = false
theorem NumBox.below {S : Nat} {v : Int} {W W' : World} (h : NumBox S v W) (hb : Below W.heap.size W W') : NumBox S v W' := ⟨cell_below hb h.1, frozen_below hb h.1 h.2⟩
theorem NumBox.kept {S : Nat} {v : Int} {A V : World} {row : Option Nat} (h : NumBox S v A) (hg : A.grownBy V row) (hr : ∀ r, row = some r → ∃ o : Obj, A.heap[r]? = some o ∧ o.isCells = false) : NumBox S v V := ⟨cell_kept h.1 hg hr, (frozen_kept h.1 hg hr).trans h.2⟩
theorem NumBox.set {S : Nat} {v : Int} {W : World} (h : NumBox S v W) (u : Int) : NumBox S u (W.setCell ⟨S, 0, none⟩ (.int .i64 u)) := ⟨set_same h.1, set_frozen h.2⟩
theorem grown_num {w W : World} {b S : Nat} (h : w.grownBy W (some b)) (hS : w.heap.size ≤ S) (o : Nat) (v : Value) : w.grownBy (W.setCell ⟨S, o, none⟩ v) (some b) :=
  h.andThen (grown_set (gr_refl W S) o v) (fun j e => by injection e with e; subst e; exact .inl hS)
theorem grown_then {w W W' : World} {b : Nat} (h : w.grownBy W (some b)) (hb : Below W.heap.size W W') : w.grownBy W' (some b) := h.andThen (grown_below hb) (fun j e => by cases e)
set_option maxRecDepth 100000 in
set_option maxHeartbeats 8000000 in
theorem ranksFn_at (p q : Int) (j K B b n : Nat) (w : World) (hr : rankB p q j = true) (hm : Memo p q K B b n w) (hn : n ≤ 1000000) :
    Calls Try.prog 51 #[.int .i64 j, .pointer (some ⟨K, 0, none⟩), .pointer (some ⟨B, 0, none⟩)] w fun e w' => e = .returned (.int .i64 (rankN p q j : Nat)) ∧ Memo p q K B b (n + 400) w' ∧ w.grownBy w' (some b) := by
  obtain ⟨hp, _, _, _, k, hk, j1, j2, ha⟩ := rankB_true hr
  obtain rfl : j = k := by omega
  clear hr hk
  have hlt := hm.lt
  have hlen := ppL_len j1
  have HP := Lib.hid hp
  have HA := Lib.hid ha
  clear hp
  refine (callsIn_wide (n := 9)).1 ?_
  refine callsIn_of_wp_marks Try.func51 rfl trivial ?_ rfl
  simp only [Try.ntmps51, List.size_toArray, List.length_cons, List.length_nil, Nat.reduceAdd, Nat.reduceSub, Array.replicate_succ, Array.replicate_zero, List.push_toArray, List.append_toArray, List.nil_append, List.cons_append]
  gi_wp2_with fail
  refine (callsIn_wide.2 (primePowers_any j _)).mono ?_
  rintro e w1 ⟨rfl, rfl⟩
  gi_wp2_with fail
  refine wpIn_rangeFunc_counted_map (P := Try.prog) rfl (by omega) (gf := 61) (lb := #[.pointer (some ⟨w.heap.size + 1, 0, none⟩)]) rfl trivial (enters_of Try.func61 (by kernel_rfl) rfl)
    (primePowers_counted 8 (by omega) j (w.heap.size + 1) _ j1 (by omega)) (Below.refl _ _) (fun _ => rfl)
    (fun k W => Memo p q K B b (n + k) W ∧ NumBox w.heap.size (rankN p q (ppK j k) : Nat) W ∧ W.cell? ⟨w.heap.size + 1, 0, none⟩ = some (.int .i64 j) ∧ w.grownBy W (some b))
    (fun _ _ _ => False) ?own (fun _ _ _ _ _ h _ _ => h) (fun _ _ h => h.2.2.1) ?start
    (fun k => { tmps := #[.int .i64 j, .pointer (some ⟨K, 0, none⟩), .pointer (some ⟨B, 0, none⟩), undef, .int .i64 0, .pointer (some ⟨w.heap.size, 0, none⟩), .int .i64 ((ppL j).getD k 0 : Nat), undef, undef, .int .i64 j, .func (.func 61) #[] #[.pointer (some ⟨w.heap.size + 1, 0, none⟩)], .int .i64 ((ppL j).getD k 0 : Nat), undef, undef, undef, undef, undef, undef, undef, undef, undef, undef, undef, undef, undef, undef, undef, undef, undef, undef, undef], defers := [] })
    ?assign ?body ?done (fun _ _ _ _ _ _ h _ => h.elim)
  case own =>
    rintro k A V row ⟨x0, x1, x2, x3⟩ hg hr
    have hr' := fun r e => (hr r e).2
    have hge : ∀ r, row = some r → w.heap.size + 1 + 1 ≤ r := fun r e => by have := (hr r e).1; simpa using this
    exact ⟨x0.kept hg hr' (fun e => by have := hge b e.symm; omega), x1.kept hg hr', cell_kept x2 hg hr', x3.andThen hg (fun r e => .inl (by have := hge r e; omega))⟩
  case start =>
    have hL : Below w.heap.size w ((w.alloc (.cells #[.int .i64 1] 3)).alloc (.cells #[.int .i64 (j : Int)] 3)) := by
      (repeat (first | exact Below.refl _ _ | refine Below.setCell ?_ (by first | omega | (simp <;> omega)) _ | refine Below.alloc ?_ (by first | omega | (simp <;> omega)) _ | refine Below.drew ?_ | refine Below.trans ?_ (Below.mono (by assumption) (by first | omega | (simp <;> omega))) | refine Below.grown ?_ (by assumption) (by first | omega | (simp <;> omega)) (fun k e => by cases e; first | omega | (simp <;> omega))))
    refine ⟨hm.below hL, ⟨?_, ?_⟩, ?_, (grown_below hL).but _⟩
    · rw [ppK_zero, rankN_one]; go_simp
    · go_simp
    · go_simp
  case assign =>
    intro l k W K hK
    gi_wp2
    exact hK
  case body =>
    rintro l k W hk ⟨hmW, hbx, hmb, hgW⟩
    obtain ⟨s1, s2, s3, s4, s5, s6⟩ := pp_step j1 hk
    have HRK := Lib.hid (rank_pp (p := p) j1 HA.out hk)
    have hxj : (ppL j).getD k 0 ≤ j := Nat.le_of_dvd j1 s4
    have hKj : ppK j k ≤ j := Nat.le_of_dvd j1 s6
    have hK1 : 1 ≤ ppK j k := Nat.pos_of_dvd_of_pos s6 j1
    obtain ⟨R1, R2⟩ := rank_bd (p := p) hK1 (by omega) (HA.out.of_nat_dvd s6)
    obtain ⟨Y1, Y2⟩ := rank_bd (p := p) (show 1 ≤ (ppL j).getD k 0 by omega) (by omega) (HA.out.of_nat_dvd s4)
    have HAX := Lib.hid (HA.out.of_nat_dvd s4)
    clear s1 s2 s4 s5 s6
    try dsimp only
    obtain ⟨x, hx⟩ : ∃ x, (ppL j).getD k 0 = x := ⟨_, rfl⟩
    rw [hx] at HRK hxj Y1 Y2 HAX s3 ⊢
    obtain ⟨R, hR⟩ : ∃ R, rankN p q (ppK j k) = R := ⟨_, rfl⟩
    rw [hR] at HRK R1 R2 hbx
    have HL := Lib.hid (show ((Nat.lcm R (rankN p q x) : Nat) : Int) = (rankN p q (ppK j (k + 1)) : Nat) by rw [HRK.out])
    have hx9 : x ≤ 1000000000 := by omega
    have hsz := hgW.size
    have HM := Lib.hid hmW
    have HX := Lib.hid hbx
    have HG := Lib.hid hgW
    have HJ := Lib.hid hmb
    obtain ⟨⟨x1, x2, x3⟩, D, x4, x5⟩ := hmW
    obtain ⟨y1, y2⟩ := hbx
    clear hgW hmb HRK hx hR hKj hK1
    gi_wp2_with (gi_at_lookup; refine wpListIn_lookup_own_ok_int _ rfl _ _ 53 rfl 3 3 .i64 intKeyed Try.underlying53 Try.underlying3 (intZero _) b _ D rfl x5 _ _ rfl (intKey hx9) ?_)
    intro c hat hwc
    clear hat hwc
    cases hh : Maps.has D (.int .i64 (x : Int)) with
    | true =>
      gi_wp2_with (gi_at_lookup; refine wpListIn_lookup_own_int _ rfl _ _ 53 rfl 3 3 .i64 intKeyed Try.underlying53 Try.underlying3 (intZero _) b _ D rfl x5 _ _ rfl (intKey hx9) ?_)
      intro c2 hat2 hwc2
      rw [x4 x hh] at hat2
      injection hat2 with hat2
      injection hat2 with _ hat2
      subst hat2
      gi_wp2_with fail
      refine (CallsIn.inRound l (callsIn_wide.2 (leastMultiple_at _ _ _ _ R1 Y1 (by omega) (by omega) HL.out))).mono ?_
      rintro e w7 ⟨rfl, hh7⟩
      have z1 := cell_below hh7 y1
      have z2 := frozen_below hh7 y1 y2
      have HH7 := Lib.hid hh7
      clear hh7 x1 x2 x3 y1 y2
      gi_wp2
      refine ⟨keepsOthers_recs ((keepsOthers_below HH7.out).trans (KeepsOthers.setCell _ _ _)), ((HM.out.below HH7.out).set hlt.1 hlt.2.1 hlt.2.2 _ _).mono (by omega), (HX.out.below HH7.out).set _, (set_other (by omega)).trans (cell_below HH7.out HJ.out), grown_num (grown_then HG.out HH7.out) (Nat.le_refl _) _ _⟩
    | false =>
      obtain ⟨S, hSd⟩ : ∃ S : World → Prop, (fun V => Below W.heap.size W V) = S := ⟨_, rfl⟩
      have hkeep : ∀ V V' : World, S V → Below V.heap.size V V' → S V' := by rw [← hSd]; exact fun V V' h hb => h.trans (hb.mono h.size)
      have g1 : ∀ i : KeptBy S, i.world.cell? ⟨K, 0, none⟩ = some (.map (some b)) := by rw [← hSd]; exact fun i => cell_below i.ok x1
      have g2 : ∀ i : KeptBy S, i.world.cell? ⟨B, 0, none⟩ = some (.int .i64 p) := by rw [← hSd]; exact fun i => cell_below i.ok x2
      have g3 : ∀ i : KeptBy S, i.world.cell? ⟨B, 1, none⟩ = some (.int .i64 q) := by rw [← hSd]; exact fun i => cell_below i.ok x3
      have g5 : Nonempty (KeptBy S) := ⟨⟨W.drew, by rw [← hSd]; exact (Below.refl _ _).drew⟩⟩
      gi_wp2_with fail
      refine wpIn_region_last_at (S := S) 5 rfl (by rw [← hSd]; exact (Below.refl _ _).drew) rfl (by kernel_rfl) (by kernel_rfl) (by kernel_rfl) (by kernel_rfl) rfl ?_
      simp only [List.take_succ_cons, List.take_zero, List.cons_append, List.nil_append, idle]
      repeat (gi_big_quiet_step ((first | (gi_at_call 53; refine (callsIn_wide.2 (firstNought_at p q x _ HP.out (by omega) (by omega) HAX.out)).mono ?_; rintro e w' ⟨rfl, hhw⟩; exact ⟨rfl, ⟨w', hkeep _ _ (KeptBy.ok _) hhw⟩, rfl⟩) | fail)))
      refine wpQuietIn_nil ?_
      intro z hz
      rw [← hSd] at hz
      have bz : Below W.heap.size W z := hz
      clear hz g1 g2 g3 g5 hkeep hSd
      gi_at_mapUpdate
      refine wpListIn_mapUpdate_own _ rfl _ _ _ 53 rfl 3 3 intKeyed Try.underlying53 _ b (n + k) D rfl (x5.kept (grown_below bz) (fun e => by cases e)) (by unfold maxLen; omega) _ _ _ rfl rfl (intKey hx9) _ [] (intElem (j := rankN p q x) (by omega)) ?_
      intro w4 hown4 hgrow4
      have hmz := (HM.out.below bz).isMap
      obtain ⟨es, c9, hes⟩ := hmz
      have u1 : w4.cell? ⟨K, 0, none⟩ = some (.map (some b)) := hgrow4.cell (cell_below bz x1) (cells_map (cell_below bz x1) hes)
      have u2 : w4.cell? ⟨B, 0, none⟩ = some (.int .i64 p) := hgrow4.cell (cell_below bz x2) (cells_map (cell_below bz x2) hes)
      have u3 : w4.cell? ⟨B, 1, none⟩ = some (.int .i64 q) := hgrow4.cell (cell_below bz x3) (cells_map (cell_below bz x3) hes)
      have v1 : w4.cell? ⟨w.heap.size, 0, none⟩ = some (.int .i64 R) := hgrow4.cell (cell_below bz y1) (cells_map (cell_below bz y1) hes)
      have v2 : w4.frozen? ⟨w.heap.size, 0, none⟩ = false := (hgrow4.frozen_far ⟨w.heap.size, 0, none⟩ (World.block_lt_of_cell? _ _ (cell_below bz y1)) (cells_map (cell_below bz y1) hes)).trans (frozen_below bz y1 y2)
      have v3 : w4.cell? ⟨w.heap.size + 1, 0, none⟩ = some (.int .i64 j) := hgrow4.cell (cell_below bz HJ.out) (cells_map (cell_below bz HJ.out) hes)
      have ok4 := x4.put x5.isMap x
      have has4 : Maps.has (D.put (.int .i64 (x : Int)) (.lit (.int .i64 (rankN p q x : Nat)))) (.int .i64 (x : Int)) = true := Maps.has_put_same x5.isMap (show WideAt.IsKeyLit (Lit.int .i64 (x : Int)) from trivial) _
      have HM4 := Lib.hid (show Memo p q K B b (n + k + 1) w4 from ⟨⟨u1, u2, u3⟩, _, ok4, hown4⟩)
      have HG4 := Lib.hid ((grown_then HG.out bz).trans hgrow4)
      have HK4 := Lib.hid ((keepsOthers_recs (keepsOthers_below bz)).trans (KeepsRecs.map hgrow4 ⟨es, c9, hes⟩))
      have V3 := Lib.hid v3
      clear hgrow4 bz x1 x2 x3 y1 y2 u2 u3 hes x5 v3
      gi_wp2_with (gi_at_lookup; refine wpListIn_lookup_own_int _ rfl _ _ 53 rfl 3 3 .i64 intKeyed Try.underlying53 Try.underlying3 (intZero _) b _ _ rfl hown4 _ _ rfl (intKey hx9) ?_)
      intro c2 hat2 hwc2
      rw [ok4 x has4] at hat2
      injection hat2 with hat2
      injection hat2 with _ hat2
      subst hat2
      gi_wp2_with fail
      refine (CallsIn.inRound l (callsIn_wide.2 (leastMultiple_at _ _ _ _ R1 Y1 (by omega) (by omega) HL.out))).mono ?_
      rintro e w7 ⟨rfl, hh7⟩
      have z1 := cell_below hh7 v1
      have z2 := frozen_below hh7 v1 v2
      have HH7 := Lib.hid hh7
      have VB := Lib.hid (show NumBox w.heap.size R w4 from ⟨v1, v2⟩)
      clear hh7 u1 v1 v2
      gi_wp2
      refine ⟨HK4.out.trans (keepsOthers_recs ((keepsOthers_below HH7.out).trans (KeepsOthers.setCell _ _ _))), ((HM4.out.below HH7.out).set hlt.1 hlt.2.1 hlt.2.2 _ _).mono (by omega), (VB.out.below HH7.out).set _, (set_other (by omega)).trans (cell_below HH7.out V3.out), grown_num (grown_then HG4.out HH7.out) (Nat.le_refl _) _ _⟩
  case done =>
    rintro E W hE ⟨hmW, hbx, hmb, hgW⟩ hK
    rw [ppK_all j1] at hbx
    have HM := Lib.hid hmW
    have HG := Lib.hid hgW
    have HK := Lib.hid hK
    have HE := Lib.hid hE
    obtain ⟨y1, y2⟩ := hbx
    clear hmW hgW hK hE hmb
    gi_wp2
    refine ⟨by simp, .inl ⟨_, _, rfl, run_takeDeferred HK.out, ?_⟩⟩
    have hE' : w.heap.size + 1 + 1 ≤ E := by have := HE.out; simpa using this
    exact ⟨_, by simp [results, Try.results51, go_sem], rfl, (HM.out.kept (grownBy_putObj' _ E (.deferred none)) (fun r e => by cases e; exact ⟨_, HK.out, rfl⟩) (fun e => by injection e with e; omega)).mono (by omega), HG.out.andThen (grownBy_putObj' _ E (.deferred none)) (fun r e => by cases e; exact .inl (by omega))⟩
end Go.Proofs.Ytfihmcpigbpgpaa
namespace Go.Proofs.Ytfihmcpigbpgpaa
open Go.RowKit
theorem Memo.far {p q : Int} {K B b n : Nat} {A V : World} {row : Option Nat} (h : Memo p q K B b n A) (hg : A.grownBy V row) (h1 : some K ≠ row) (h2 : some B ≠ row) (h3 : some b ≠ row) : Memo p q K B b n V := by
  obtain ⟨⟨x1, x2, x3⟩, D, x4, x5⟩ := h
  exact ⟨⟨hg.cell x1 h1, hg.cell x2 h2, hg.cell x3 h2⟩, D, x4, x5.kept hg h3⟩
set_option maxHeartbeats 2000000 in
theorem implRank_any (p q m : Int) (w : World) : Calls Try.prog 19 #[pr p q, .int .i64 m] w fun e w' => e = .returned (.tuple #[.int .i64 (rankV p q m), .bool (rankB p q m)]) ∧ Below w.heap.size w w' := by
  cases h : rankB p q m with
  | false =>
    have HB := Lib.hid h
    have HV := Lib.hid (show rankV p q m = -1 by rw [rankV, if_neg (by simp [h])])
    clear h
    go_enter Try.func19, Try.ntmps19
    go_wp2_with fail
    refine (rankedOk_is p q m false _ HB.out).mono ?_
    rintro e w1 ⟨rfl, hh1⟩
    obtain ⟨hc1, hf1⟩ := bcell hh1
    have hz1 := hh1.size
    try simp only [World.size_alloc] at hz1
    have hz1_0 : w.heap.size < w1.heap.size := by omega
    have kb1_0_0 : w1.cell? ⟨w.heap.size, 0, none⟩ = some (.int .i64 p) := by go_simp
    have kf1_0_0 : w1.frozen? ⟨w.heap.size, 0, none⟩ = false := by go_simp
    have kb1_0_1 : w1.cell? ⟨w.heap.size, 1, none⟩ = some (.int .i64 q) := by go_simp
    have kf1_0_1 : w1.frozen? ⟨w.heap.size, 1, none⟩ = false := by go_simp
    clear hc1 hf1
    go_wp2
    go_ret2
    exact ⟨ret_int_bool HV.out.symm rfl, by (repeat (first | exact Below.refl _ _ | refine Below.setCell ?_ (by first | omega | (simp <;> omega)) _ | refine Below.alloc ?_ (by first | omega | (simp <;> omega)) _ | refine Below.drew ?_ | refine Below.trans ?_ (Below.mono (by assumption) (by first | omega | (simp <;> omega))) | refine Below.grown ?_ (by assumption) (by first | omega | (simp <;> omega)) (fun k e => by cases e; first | omega | (simp <;> omega))))⟩
  | true =>
    obtain ⟨_, _, _, _, k, rfl, _, _, _⟩ := rankB_true h
    have HB := Lib.hid h
    have HV := Lib.hid (rankV_is h)
    clear h
    go_enter Try.func19, Try.ntmps19
    go_wp2_with fail
    refine (rankedOk_is p q k true _ HB.out).mono ?_
    rintro e w1 ⟨rfl, hh1⟩
    obtain ⟨hc1, hf1⟩ := bcell hh1
    have hz1 := hh1.size
    try simp only [World.size_alloc] at hz1
    have hz1_0 : w.heap.size < w1.heap.size := by omega
    have kb1_0_0 : w1.cell? ⟨w.heap.size, 0, none⟩ = some (.int .i64 p) := by go_simp
    have kf1_0_0 : w1.frozen? ⟨w.heap.size, 0, none⟩ = false := by go_simp
    have kb1_0_1 : w1.cell? ⟨w.heap.size, 1, none⟩ = some (.int .i64 q) := by go_simp
    have kf1_0_1 : w1.frozen? ⟨w.heap.size, 1, none⟩ = false := by go_simp
    clear hc1 hf1
    go_wp2_with fail
    refine (ranksBy_any p q _).mono ?_
    rintro e w2 ⟨rfl, hm2, hh2⟩
    obtain ⟨hc2, hf2⟩ := bcell hh2
    have hz2 := hh2.size
    try simp only [World.size_alloc] at hz2
    go_wp2_with fail
    refine (ranksFn_at p q k _ _ _ 0 _ HB.out hm2 (by omega)).mono ?_
    rintro e w3 ⟨rfl, _, hg3⟩
    go_wp2
    go_ret2
    exact ⟨ret_int_bool HV.out.symm rfl, by (repeat (first | exact Below.refl _ _ | refine Below.setCell ?_ (by first | omega | (simp <;> omega)) _ | refine Below.alloc ?_ (by first | omega | (simp <;> omega)) _ | refine Below.drew ?_ | refine Below.trans ?_ (Below.mono (by assumption) (by first | omega | (simp <;> omega))) | refine Below.grown ?_ (by assumption) (by first | omega | (simp <;> omega)) (fun k e => by cases e; first | omega | (simp <;> omega))))⟩
theorem implRank_val (p q m v : Int) (c : Bool) (w : World) (hv : rankV p q m = v) (hc : rankB p q m = c) : Calls Try.prog 19 #[pr p q, .int .i64 m] w fun e w' => e = .returned (.tuple #[.int .i64 v, .bool c]) ∧ Below w.heap.size w w' := by rw [← hv, ← hc]; exact implRank_any p q m w
theorem sameL_none {p q n : Int} (h : pairB p q = false) : sameL p q n = [] := by
  rw [sameL]
  split
  · rw [holdL, List.filter_eq_nil_iff]
    intro j _
    simp [sameB, rankB, h]
  · rfl
end Go.Proofs.Ytfihmcpigbpgpaa
namespace Go.Proofs.Ytfihmcpigbpgpaa
open Go.RowKit
/-- What a draw of a number returns. -/
def DrawnInt (w : World) (e : Ending) (w' : World) : Prop := ∃ a : Int, e = .returned (.int .i64 a) ∧ Below w.heap.size w w'
end Go.Proofs.Ytfihmcpigbpgpaa
namespace Go.Proofs.Ytfihmcpigbpgpaa
open Go.RowKit
set_option maxHeartbeats 2000000 in
theorem drawFibRank_any (w : World) (a : Option Addr) (len cap : Nat) (zs : List Int) (h : IsRow w a len cap zs) :
    Calls Try.prog 16 #[.slice a len cap] w (DrawnInt w) := by
  go_enter Try.func16, Try.ntmps16
  go_wp2_with fail
  refine (open_any _ _ _ _ zs h).mono ?_
  rintro e w1 ⟨rfl, hR1, hh1, hzR1⟩
  try simp only [World.size_alloc] at hzR1
  try simp only [World.size_alloc] at hR1
  obtain ⟨hc1, hf1⟩ := bcell hh1
  have hz1 := hh1.size
  try simp only [World.size_alloc] at hz1
  go_wp2_with fail
  refine (l20Few_any w.heap.size 0 _ hR1 (by omega)).mono ?_
  rintro e w2 ⟨v2, rfl, hR2, hh2⟩
  obtain ⟨hc2, hf2⟩ := gcell hh2
  have hz2 := hh2.size
  try simp only [World.size_alloc] at hz2
  clear hc2 hf2
  go_wp2
  go_ret
  exact ⟨_, rfl, by (repeat (first | exact Below.refl _ _ | refine Below.setCell ?_ (by first | omega | (simp <;> omega)) _ | refine Below.alloc ?_ (by first | omega | (simp <;> omega)) _ | refine Below.drew ?_ | refine Below.trans ?_ (Below.mono (by assumption) (by first | omega | (simp <;> omega))) | refine Below.grown ?_ (by assumption) (by first | omega | (simp <;> omega)) (fun k e => by cases e; first | omega | (simp <;> omega))))⟩
set_option maxHeartbeats 2000000 in
theorem drawPowerRank_any (w : World) (a : Option Addr) (len cap : Nat) (zs : List Int) (h : IsRow w a len cap zs) :
    Calls Try.prog 24 #[.slice a len cap] w (DrawnNums w) := by
  go_enter Try.func24, Try.ntmps24
  go_wp2_with fail
  refine (open_any _ _ _ _ zs h).mono ?_
  rintro e w1 ⟨rfl, hR1, hh1, hzR1⟩
  try simp only [World.size_alloc] at hzR1
  try simp only [World.size_alloc] at hR1
  obtain ⟨hc1, hf1⟩ := bcell hh1
  have hz1 := hh1.size
  try simp only [World.size_alloc] at hz1
  go_wp2_with fail
  refine (l20Few_any w.heap.size 0 _ hR1 (by omega)).mono ?_
  rintro e w2 ⟨v2, rfl, hR2, hh2⟩
  obtain ⟨hc2, hf2⟩ := gcell hh2
  have hz2 := hh2.size
  try simp only [World.size_alloc] at hz2
  clear hc2 hf2
  go_wp2_with fail
  refine (pick_any w.heap.size (0 + 1) 5 _ hR2 (by omega) (by omega)).mono ?_
  rintro e w3 ⟨v3, rfl, va3, vb3, hR3, hh3⟩
  have vc3 : v3 ≤ max (5 - 1) 0 := by omega
  clear vb3
  obtain ⟨hc3, hf3⟩ := gcell hh3
  have hz3 := hh3.size
  try simp only [World.size_alloc] at hz3
  clear hc3 hf3
  go_wp2_with fail
  refine (pick_any w.heap.size (0 + 1 + 1) 20 _ hR3 (by omega) (by omega)).mono ?_
  rintro e w4 ⟨v4, rfl, va4, vb4, hR4, hh4⟩
  have vc4 : v4 ≤ max (20 - 1) 0 := by omega
  clear vb4
  obtain ⟨hc4, hf4⟩ := gcell hh4
  have hz4 := hh4.size
  try simp only [World.size_alloc] at hz4
  clear hc4 hf4
  have q1 : 0 ≤ v4 / 19 := by omega
  have q2 : v4 / 19 ≤ 1 := by omega
  go_wp2
  refine bodyPost_ret (v := .tuple #[.int .i64 v2, .int .i64 (v3 + v4 / 19 * 6)]) (by simp [results, Try.results24, go_sem]) rfl ⟨_, _, rfl, ?_⟩
  (repeat (first | exact Below.refl _ _ | refine Below.setCell ?_ (by first | omega | (simp <;> omega)) _ | refine Below.alloc ?_ (by first | omega | (simp <;> omega)) _ | refine Below.drew ?_ | refine Below.trans ?_ (Below.mono (by assumption) (by first | omega | (simp <;> omega))) | refine Below.grown ?_ (by assumption) (by first | omega | (simp <;> omega)) (fun k e => by cases e; first | omega | (simp <;> omega))))
set_option maxHeartbeats 4000000 in
theorem drawTimesIn_any (w : World) (a : Option Addr) (len cap : Nat) (zs : List Int) (h : IsRow w a len cap zs) :
    Calls Try.prog 11 #[.slice a len cap] w (DrawnNums w) := by
  go_enter Try.func11, Try.ntmps11
  go_wp2_with fail
  refine (open_any _ _ _ _ zs h).mono ?_
  rintro e w1 ⟨rfl, hR1, hh1, hzR1⟩
  try simp only [World.size_alloc] at hzR1
  try simp only [World.size_alloc] at hR1
  obtain ⟨hc1, hf1⟩ := bcell hh1
  have hz1 := hh1.size
  try simp only [World.size_alloc] at hz1
  go_wp2_with fail
  refine (l20Few_any w.heap.size 0 _ hR1 (by omega)).mono ?_
  rintro e w2 ⟨v2, rfl, hR2, hh2⟩
  obtain ⟨hc2, hf2⟩ := gcell hh2
  have hz2 := hh2.size
  try simp only [World.size_alloc] at hz2
  clear hc2 hf2
  go_wp2_with fail
  refine (pick_any w.heap.size (0 + 1) 200 _ hR2 (by omega) (by omega)).mono ?_
  rintro e w3 ⟨v3, rfl, va3, vb3, hR3, hh3⟩
  have vc3 : v3 ≤ max (200 - 1) 0 := by omega
  clear vb3
  obtain ⟨hc3, hf3⟩ := gcell hh3
  have hz3 := hh3.size
  try simp only [World.size_alloc] at hz3
  clear hc3 hf3
  go_wp2_with fail
  refine (pick_any w.heap.size (0 + 1 + 1) 5 _ hR3 (by omega) (by omega)).mono ?_
  rintro e w4 ⟨v4, rfl, va4, vb4, hR4, hh4⟩
  have vc4 : v4 ≤ max (5 - 1) 0 := by omega
  clear vb4
  obtain ⟨hc4, hf4⟩ := gcell hh4
  have hz4 := hh4.size
  try simp only [World.size_alloc] at hz4
  clear hc4 hf4
  go_wp2_with fail
  go_loop [6, 7] (fun x y => ∃ (n : Int) (j : Nat), j ≤ 4 ∧ x = .int .i64 n ∧ y = .int .i64 j) (fun _ y => (intOf y).toNat)
  case atStart => exact ⟨1 + v3, v4.toNat, by omega, rfl, congrArg (Value.int .i64) (by omega)⟩
  case round =>
    obtain ⟨n, j, hj, rfl, rfl⟩ := hrel
    by_cases h0 : j = 0
    · subst h0
      go_wp2_with fail
      refine (pick_any w.heap.size (0 + 1 + 1 + 1) 30 _ hR4 (by omega) (by omega)).mono ?_
      rintro e w5 ⟨v5, rfl, va5, vb5, hR5, hh5⟩
      have vc5 : v5 ≤ max (30 - 1) 0 := by omega
      clear vb5
      obtain ⟨hc5, hf5⟩ := gcell hh5
      have hz5 := hh5.size
      try simp only [World.size_alloc] at hz5
      clear hc5 hf5
      have q1 : 0 ≤ v5 / 29 := by omega
      have q2 : v5 / 29 ≤ 1 := by omega
      go_wp2
      refine bodyPost_ret (v := .tuple #[.int .i64 _, .int .i64 v2]) (by simp [results, Try.results11, go_sem]; rfl) rfl ⟨_, _, rfl, ?_⟩
      (repeat (first | exact Below.refl _ _ | refine Below.setCell ?_ (by first | omega | (simp <;> omega)) _ | refine Below.alloc ?_ (by first | omega | (simp <;> omega)) _ | refine Below.drew ?_ | refine Below.trans ?_ (Below.mono (by assumption) (by first | omega | (simp <;> omega))) | refine Below.grown ?_ (by assumption) (by first | omega | (simp <;> omega)) (fun k e => by cases e; first | omega | (simp <;> omega))))
    · have hji : (0 : Int) < (j : Int) := by omega
      go_wp2
      go_round
      case rel => exact ⟨_, j - 1, by omega, rfl, congrArg (Value.int .i64) (by omega)⟩
      case measure => simp [intOf]; omega
set_option maxHeartbeats 4000000 in
theorem drawTimesAt_any (w : World) (a : Option Addr) (len cap : Nat) (zs : List Int) (h : IsRow w a len cap zs) :
    Calls Try.prog 20 #[.slice a len cap] w (DrawnNums w) := by
  go_enter Try.func20, Try.ntmps20
  go_wp2_with fail
  refine (open_any _ _ _ _ zs h).mono ?_
  rintro e w1 ⟨rfl, hR1, hh1, hzR1⟩
  try simp only [World.size_alloc] at hzR1
  try simp only [World.size_alloc] at hR1
  obtain ⟨hc1, hf1⟩ := bcell hh1
  have hz1 := hh1.size
  try simp only [World.size_alloc] at hz1
  go_wp2_with fail
  refine (l20Few_any w.heap.size 0 _ hR1 (by omega)).mono ?_
  rintro e w2 ⟨v2, rfl, hR2, hh2⟩
  obtain ⟨hc2, hf2⟩ := gcell hh2
  have hz2 := hh2.size
  try simp only [World.size_alloc] at hz2
  clear hc2 hf2
  go_wp2_with fail
  refine (specFib_any v2 _).mono ?_
  rintro e w3 ⟨rfl, hh3⟩
  have hR3 := hR2.below hh3 (Nat.le_refl _)
  obtain ⟨hc3, hf3⟩ := bcell hh3
  have hz3 := hh3.size
  clear hc3 hf3
  obtain ⟨r, hr⟩ : ∃ r, fibRankV v2 = r := ⟨_, rfl⟩
  rw [hr]
  clear hr
  go_wp2_with fail
  refine (pick_any w.heap.size (0 + 1) 40 _ hR3 (by omega) (by omega)).mono ?_
  rintro e w4 ⟨v4, rfl, va4, vb4, hR4, hh4⟩
  have vc4 : v4 ≤ max (40 - 1) 0 := by omega
  clear vb4
  obtain ⟨hc4, hf4⟩ := gcell hh4
  have hz4 := hh4.size
  try simp only [World.size_alloc] at hz4
  clear hc4 hf4
  go_wp2_with fail
  refine (pick_any w.heap.size (0 + 1 + 1) 3 _ hR4 (by omega) (by omega)).mono ?_
  rintro e w5 ⟨v5, rfl, va5, vb5, hR5, hh5⟩
  have vc5 : v5 ≤ max (3 - 1) 0 := by omega
  clear vb5
  obtain ⟨hc5, hf5⟩ := gcell hh5
  have hz5 := hh5.size
  try simp only [World.size_alloc] at hz5
  clear hc5 hf5
  go_wp2_with fail
  go_loop [7, 8] (fun x y => ∃ (n : Int) (j : Nat), j ≤ 2 ∧ x = .int .i64 n ∧ y = .int .i64 j) (fun _ y => (intOf y).toNat)
  case atStart => exact ⟨_, v5.toNat, by omega, rfl, congrArg (Value.int .i64) (by omega)⟩
  case round =>
    obtain ⟨n, j, hj, rfl, rfl⟩ := hrel
    by_cases hgo : 0 < j ∧ n < 10000000
    · obtain ⟨h0, hn⟩ := hgo
      have hji : (0 : Int) < (j : Int) := by omega
      go_wp2
      go_round
      case rel => exact ⟨_, j - 1, by omega, rfl, congrArg (Value.int .i64) (by omega)⟩
      case measure => simp [intOf]; omega
    · by_cases h0 : j = 0
      · subst h0
        go_wp2_with fail
        refine (pick_any w.heap.size (0 + 1 + 1 + 1) 4 _ hR5 (by omega) (by omega)).mono ?_
        rintro e w6 ⟨v6, rfl, va6, vb6, hR6, hh6⟩
        have vc6 : v6 ≤ max (4 - 1) 0 := by omega
        clear vb6
        obtain ⟨hc6, hf6⟩ := gcell hh6
        have hz6 := hh6.size
        try simp only [World.size_alloc] at hz6
        clear hc6 hf6
        by_cases h4 : v6 = 0
        · subst h4
          go_wp2_with fail
          refine (pick_any w.heap.size (0 + 1 + 1 + 1 + 1) 9 _ hR6 (by omega) (by omega)).mono ?_
          rintro e w7 ⟨v7, rfl, va7, vb7, hR7, hh7⟩
          have vc7 : v7 ≤ max (9 - 1) 0 := by omega
          clear vb7
          obtain ⟨hc7, hf7⟩ := gcell hh7
          have hz7 := hh7.size
          try simp only [World.size_alloc] at hz7
          clear hc7 hf7
          go_wp2_with fail
          refine (pick_any w.heap.size (0 + 1 + 1 + 1 + 1 + 1) 30 _ hR7 (by omega) (by omega)).mono ?_
          rintro e w8 ⟨v8, rfl, va8, vb8, hR8, hh8⟩
          have vc8 : v8 ≤ max (30 - 1) 0 := by omega
          clear vb8
          obtain ⟨hc8, hf8⟩ := gcell hh8
          have hz8 := hh8.size
          try simp only [World.size_alloc] at hz8
          clear hc8 hf8
          have q1 : 0 ≤ v8 / 29 := by omega
          have q2 : v8 / 29 ≤ 1 := by omega
          go_wp2
          refine bodyPost_ret (v := .tuple #[.int .i64 _, .int .i64 v2]) (by simp [results, Try.results20, go_sem]; rfl) rfl ⟨_, _, rfl, ?_⟩
          (repeat (first | exact Below.refl _ _ | refine Below.setCell ?_ (by first | omega | (simp <;> omega)) _ | refine Below.alloc ?_ (by first | omega | (simp <;> omega)) _ | refine Below.drew ?_ | refine Below.trans ?_ (Below.mono (by assumption) (by first | omega | (simp <;> omega))) | refine Below.grown ?_ (by assumption) (by first | omega | (simp <;> omega)) (fun k e => by cases e; first | omega | (simp <;> omega))))
        · have h4b : (v6 == 0) = false := by simpa using h4
          go_wp2_with fail
          refine (pick_any w.heap.size (0 + 1 + 1 + 1 + 1) 30 _ hR6 (by omega) (by omega)).mono ?_
          rintro e w8 ⟨v8, rfl, va8, vb8, hR8, hh8⟩
          have vc8 : v8 ≤ max (30 - 1) 0 := by omega
          clear vb8
          obtain ⟨hc8, hf8⟩ := gcell hh8
          have hz8 := hh8.size
          try simp only [World.size_alloc] at hz8
          clear hc8 hf8
          have q1 : 0 ≤ v8 / 29 := by omega
          have q2 : v8 / 29 ≤ 1 := by omega
          go_wp2
          refine bodyPost_ret (v := .tuple #[.int .i64 _, .int .i64 v2]) (by simp [results, Try.results20, go_sem]; rfl) rfl ⟨_, _, rfl, ?_⟩
          (repeat (first | exact Below.refl _ _ | refine Below.setCell ?_ (by first | omega | (simp <;> omega)) _ | refine Below.alloc ?_ (by first | omega | (simp <;> omega)) _ | refine Below.drew ?_ | refine Below.trans ?_ (Below.mono (by assumption) (by first | omega | (simp <;> omega))) | refine Below.grown ?_ (by assumption) (by first | omega | (simp <;> omega)) (fun k e => by cases e; first | omega | (simp <;> omega))))
      · have hji : (0 : Int) < (j : Int) := by omega
        have hn : 10000000 ≤ n := by omega
        go_wp2_with fail
        refine (pick_any w.heap.size (0 + 1 + 1 + 1) 4 _ hR5 (by omega) (by omega)).mono ?_
        rintro e w6 ⟨v6, rfl, va6, vb6, hR6, hh6⟩
        have vc6 : v6 ≤ max (4 - 1) 0 := by omega
        clear vb6
        obtain ⟨hc6, hf6⟩ := gcell hh6
        have hz6 := hh6.size
        try simp only [World.size_alloc] at hz6
        clear hc6 hf6
        by_cases h4 : v6 = 0
        · subst h4
          go_wp2_with fail
          refine (pick_any w.heap.size (0 + 1 + 1 + 1 + 1) 9 _ hR6 (by omega) (by omega)).mono ?_
          rintro e w7 ⟨v7, rfl, va7, vb7, hR7, hh7⟩
          have vc7 : v7 ≤ max (9 - 1) 0 := by omega
          clear vb7
          obtain ⟨hc7, hf7⟩ := gcell hh7
          have hz7 := hh7.size
          try simp only [World.size_alloc] at hz7
          clear hc7 hf7
          go_wp2_with fail
          refine (pick_any w.heap.size (0 + 1 + 1 + 1 + 1 + 1) 30 _ hR7 (by omega) (by omega)).mono ?_
          rintro e w8 ⟨v8, rfl, va8, vb8, hR8, hh8⟩
          have vc8 : v8 ≤ max (30 - 1) 0 := by omega
          clear vb8
          obtain ⟨hc8, hf8⟩ := gcell hh8
          have hz8 := hh8.size
          try simp only [World.size_alloc] at hz8
          clear hc8 hf8
          have q1 : 0 ≤ v8 / 29 := by omega
          have q2 : v8 / 29 ≤ 1 := by omega
          go_wp2
          refine bodyPost_ret (v := .tuple #[.int .i64 _, .int .i64 v2]) (by simp [results, Try.results20, go_sem]; rfl) rfl ⟨_, _, rfl, ?_⟩
          (repeat (first | exact Below.refl _ _ | refine Below.setCell ?_ (by first | omega | (simp <;> omega)) _ | refine Below.alloc ?_ (by first | omega | (simp <;> omega)) _ | refine Below.drew ?_ | refine Below.trans ?_ (Below.mono (by assumption) (by first | omega | (simp <;> omega))) | refine Below.grown ?_ (by assumption) (by first | omega | (simp <;> omega)) (fun k e => by cases e; first | omega | (simp <;> omega))))
        · have h4b : (v6 == 0) = false := by simpa using h4
          go_wp2_with fail
          refine (pick_any w.heap.size (0 + 1 + 1 + 1 + 1) 30 _ hR6 (by omega) (by omega)).mono ?_
          rintro e w8 ⟨v8, rfl, va8, vb8, hR8, hh8⟩
          have vc8 : v8 ≤ max (30 - 1) 0 := by omega
          clear vb8
          obtain ⟨hc8, hf8⟩ := gcell hh8
          have hz8 := hh8.size
          try simp only [World.size_alloc] at hz8
          clear hc8 hf8
          have q1 : 0 ≤ v8 / 29 := by omega
          have q2 : v8 / 29 ≤ 1 := by omega
          go_wp2
          refine bodyPost_ret (v := .tuple #[.int .i64 _, .int .i64 v2]) (by simp [results, Try.results20, go_sem]; rfl) rfl ⟨_, _, rfl, ?_⟩
          (repeat (first | exact Below.refl _ _ | refine Below.setCell ?_ (by first | omega | (simp <;> omega)) _ | refine Below.alloc ?_ (by first | omega | (simp <;> omega)) _ | refine Below.drew ?_ | refine Below.trans ?_ (Below.mono (by assumption) (by first | omega | (simp <;> omega))) | refine Below.grown ?_ (by assumption) (by first | omega | (simp <;> omega)) (fun k e => by cases e; first | omega | (simp <;> omega))))
end Go.Proofs.Ytfihmcpigbpgpaa
namespace Go.Proofs.Ytfihmcpigbpgpaa
open Go.RowKit
theorem implRank_is (p q m v : Int) (c : Bool) (w : World) (hv : rankV p q m = v) (hc : rankB p q m = c) : Calls Try.prog 19 #[pr p q, .int .i64 m] w fun e w' => e = .returned (.tuple #[.int .i64 v, .bool c]) ∧ Below w.heap.size w w' := by rw [← hv, ← hc]; exact implRank_any p q m w
/-- At a place a number with a rank divides just if its rank divides the place. -/
theorem divides_left {p q : Int} {k : Nat} (h : rankB p q k = true) (hk : 1 ≤ k) (ha : Apart (k : Int) q) (t : Nat) (ht : t ≤ 1000000000) : dividesB p q k t = (row p q 0 1 t % (k : Int) == 0) := by
  rw [Bool.eq_iff_iff, left_zero_iff, rankN_dvd k hk ha]
  simp [dividesB, h, inB_mk (n := (t : Int)) (a := 0) (b := 1000000000) (by omega) (by omega)]
end Go.Proofs.Ytfihmcpigbpgpaa
