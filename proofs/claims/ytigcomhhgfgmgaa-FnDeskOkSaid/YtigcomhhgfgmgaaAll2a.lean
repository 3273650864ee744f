/- Contracts and laws that the statement's proof stands on, one text behind the other. -/
import Derived.Test.YtigcomhhgfgmgaaAll1
import Derived.Test.YtigcomhhgfgmgaaHvDeskDoS
import Derived.Test.YtigcomhhgfgmgaaHvDeskDoT
import Derived.Test.YtigcomhhgfgmgaaHvDeskExactC
import Derived.Test.YtigcomhhgfgmgaaHvDeskRunS
import Derived.Test.YtigcomhhgfgmgaaHvDeskExactD
import Derived.Deep.RegionHeld3
import Derived.Deep.Cut
import Derived.Deep.DeepCutAuto

namespace Go.Proofs.Ytigcomhhgfgmgaa
open Go.RowKit
/-- What a draw of a desk returns: a desk with at most six of before, in memory of its own. -/
def DeskDrawn (w : World) (R k : Nat) (e : Ending) (w' : World) : Prop :=
  ∃ (p q : Int) (a : Option Addr) (c : Nat) (L : List (Int × Int)), e = .returned (.agg #[.int .i64 p, .int .i64 q, .slice a L.length c]) ∧ IsPairs w.heap.size w'.heap.size w' (.slice a L.length c) L ∧ L.length ≤ 6 ∧ Rd w' R (k + 40) ∧ w.grownBy w' (some R)
theorem rd_setD {w : World} {R k b o : Nat} (h : Rd w R k) (hq : R < b) (u : Value) : Rd (w.setCell ⟨b, o, none⟩ u) R k := h.set hq u
theorem gr_setD {w w1 : World} {R b o : Nat} (h : w.grownBy w1 (some R)) (hp : w.heap.size ≤ b) (v : Value) : w.grownBy (w1.setCell ⟨b, o, none⟩ v) (some R) := gr_set h hp v
theorem rd_drewD {w : World} {R k : Nat} (h : Rd w R k) : Rd w.drew R k := h
theorem pairs_grows {B C R : Nat} {w w' : World} {v : Value} {L : List (Int × Int)} (h : IsPairs B C w v L) (hg : w.grownBy w' (some R)) (hR : R < B) : IsPairs B C w' v L := by
  have hC : C ≤ w.heap.size := by obtain ⟨_, _, _, hC, _⟩ := id h; exact hC
  exact h.far hg.size (fun g h1 h2 => hg.block g (by omega) (fun e => by injection e; omega))
theorem doR_more (d : DeskN) (x : DeedN) : (doR d x).1.past.length ≤ d.past.length + 1 := by
  cases hd : deskN d with
  | false => rw [doR_no hd]; simp
  | true =>
    rw [doR_yes hd]
    unfold doN
    split
    · split
      · simp
      · first | (simp; done) | (simp; omega)
    · split
      · first | (simp; done) | (simp; omega)
      · simp
set_option maxRecDepth 100000 in
set_option maxHeartbeats 8000000 in
theorem l20Desk_any (R k : Nat) (n : Int) (w : World) (h : Rd w R k) (hk : k ≤ 800000) (hn : n ≤ 1000000) :
    Calls Try.prog 39 #[.pointer (some ⟨R, 0, none⟩), .int .i64 n] w (DeskDrawn w R k) := by
  obtain ⟨i0, hi0, hz0, hzs1, hz2⟩ := info_parts info_pair
  have hRlt := h.lt
  have hRne : ¬ w.heap.size = R := by omega
  go_enter Try.func39, Try.ntmps39
  go_wp2_with fail
  refine (l20Pair_any R k 0 _ (h.alloc _) (by omega) (by omega)).mono ?_
  rintro e w1 ⟨p0, q0, rfl, _, _, _, _, hR1, hh1⟩
  obtain ⟨hc1, hf1⟩ := gcell hh1
  have hz1 := hh1.size
  simp at hz1
  have hw1 : w.heap.size < w1.heap.size := by omega
  have r0 : w1.cell? ⟨w.heap.size, 0, none⟩ = some (.int .i64 0) := by go_simp
  have fr0 : w1.frozen? ⟨w.heap.size, 0, none⟩ = false := by go_simp
  have r1 : w1.cell? ⟨w.heap.size, 1, none⟩ = some (.int .i64 0) := by go_simp
  have fr1 : w1.frozen? ⟨w.heap.size, 1, none⟩ = false := by go_simp
  have r2 : w1.cell? ⟨w.heap.size, 2, none⟩ = some (.slice none 0 0) := by go_simp
  have fr2 : w1.frozen? ⟨w.heap.size, 2, none⟩ = false := by go_simp
  have hg1 := gr_trans (gr_alloc (gr_refl w R) _) hh1
  clear hc1 hf1 hh1
  obtain ⟨rp, rq, ok0, hS0, _⟩ := deskNew_both p0 q0
  have HS0 := Lib.hid hS0
  clear hS0
  go_wp2_with fail
  refine (HS0.out _).mono ?_
  rintro e w2 ⟨rfl, hb2⟩
  obtain ⟨hc2, hf2⟩ := bcell hb2
  have hz2' := hb2.size
  have hw2 : w.heap.size < w2.heap.size := by omega
  have hR2 := hR1.below hb2 (Nat.le_refl _)
  have hg2 := gr_below hg1 hb2
  have r0 : w2.cell? ⟨w.heap.size, 0, none⟩ = some (.int .i64 0) := by go_simp
  have fr0 : w2.frozen? ⟨w.heap.size, 0, none⟩ = false := by go_simp
  have r1 : w2.cell? ⟨w.heap.size, 1, none⟩ = some (.int .i64 0) := by go_simp
  have fr1 : w2.frozen? ⟨w.heap.size, 1, none⟩ = false := by go_simp
  have r2 : w2.cell? ⟨w.heap.size, 2, none⟩ = some (.slice none 0 0) := by go_simp
  have fr2 : w2.frozen? ⟨w.heap.size, 2, none⟩ = false := by go_simp
  clear hc2 hf2 hb2 hR1 hg1
  go_wp2_with fail
  refine (pick_any R (k + 5) 6 _ (hR2.alloc _) (by omega) (by omega)).mono ?_
  rintro e w3 ⟨v, rfl, va, vb, hR3, hh3⟩
  obtain ⟨hc3, hf3⟩ := gcell hh3
  have hz3 := hh3.size
  simp at hz3
  have hw3 : w.heap.size < w3.heap.size := by omega
  have hT3 : w2.heap.size < w3.heap.size := by omega
  have hRT : ¬ w2.heap.size = R := by omega
  have hg3 := gr_trans (gr_alloc hg2 (.cells #[.int .i64 rp, .int .i64 rq, .slice none 0 0] 27)) hh3
  have r0 : w3.cell? ⟨w.heap.size, 0, none⟩ = some (.int .i64 0) := by go_simp
  have fr0 : w3.frozen? ⟨w.heap.size, 0, none⟩ = false := by go_simp
  have r1 : w3.cell? ⟨w.heap.size, 1, none⟩ = some (.int .i64 0) := by go_simp
  have fr1 : w3.frozen? ⟨w.heap.size, 1, none⟩ = false := by go_simp
  have r2 : w3.cell? ⟨w.heap.size, 2, none⟩ = some (.slice none 0 0) := by go_simp
  have fr2 : w3.frozen? ⟨w.heap.size, 2, none⟩ = false := by go_simp
  have d0 : w3.cell? ⟨w2.heap.size, 0, none⟩ = some (.int .i64 rp) := by go_simp
  have fd0 : w3.frozen? ⟨w2.heap.size, 0, none⟩ = false := by go_simp
  have d1 : w3.cell? ⟨w2.heap.size, 1, none⟩ = some (.int .i64 rq) := by go_simp
  have fd1 : w3.frozen? ⟨w2.heap.size, 1, none⟩ = false := by go_simp
  have d2 : w3.cell? ⟨w2.heap.size, 2, none⟩ = some (.slice none 0 0) := by go_simp
  have fd2 : w3.frozen? ⟨w2.heap.size, 2, none⟩ = false := by go_simp
  obtain ⟨n5, rfl⟩ : ∃ n : Nat, v = (n : Int) := ⟨v.toNat, by omega⟩
  have hn5 : n5 ≤ 5 := by omega
  clear hc3 hf3 hh3 hR2 hg2 va vb
  go_wp2_with fail
  go_loopw [7] (fun x7 wr => ∃ (j i : Nat) (p q : Int) (L : List (Int × Int)) (a : Option Addr) (c : Nat), x7 = .int .i64 j ∧ i + j = n5 ∧ L.length ≤ i ∧ (wr.cell? ⟨w2.heap.size, 0, none⟩ = some (.int .i64 p) ∧ wr.cell? ⟨w2.heap.size, 1, none⟩ = some (.int .i64 q) ∧ wr.cell? ⟨w2.heap.size, 2, none⟩ = some (.slice a L.length c) ∧ wr.frozen? ⟨w2.heap.size, 0, none⟩ = false ∧ wr.frozen? ⟨w2.heap.size, 1, none⟩ = false ∧ wr.frozen? ⟨w2.heap.size, 2, none⟩ = false) ∧ (wr.cell? ⟨w.heap.size, 0, none⟩ = some (.int .i64 0) ∧ wr.cell? ⟨w.heap.size, 1, none⟩ = some (.int .i64 0) ∧ wr.cell? ⟨w.heap.size, 2, none⟩ = some (.slice none 0 0) ∧ wr.frozen? ⟨w.heap.size, 0, none⟩ = false ∧ wr.frozen? ⟨w.heap.size, 1, none⟩ = false ∧ wr.frozen? ⟨w.heap.size, 2, none⟩ = false) ∧ wr.ownsRow (w2.heap.size + 1) 24 2 (.slice a L.length c) L.length (pairCells L) ∧ w2.heap.size < wr.heap.size ∧ Rd wr R (k + 6 + 6 * i) ∧ w.grownBy wr (some R)) (fun x7 _ => (intOf x7).toNat)
  case atStart => exact ⟨n5, 0, rp, rq, [], none, 0, rfl, by omega, by simp, ⟨d0, d1, d2, fd0, fd1, fd2⟩, ⟨r0, r1, r2, fr0, fr1, fr2⟩, World.ownsRow_nil _ _ _ _, hT3, hR3, hg3⟩
  case round =>
    obtain ⟨j, i, p, q, L, a, c, rfl, hij, hLi, ⟨e0, e1, e2, fe0, fe1, fe2⟩, ⟨s0, s1, s2, fs0, fs1, fs2⟩, hO, hT, hR, hg⟩ := hrel
    clear d0 d1 d2 fd0 fd1 fd2 r0 r1 r2 fr0 fr1 fr2 hR3 hg3
    rcases Nat.eq_zero_or_pos j with rfl | hjp
    · have HO := Lib.hid hO
      have hwr : w.heap.size < wr.heap.size := by omega
      have hRb : R < w2.heap.size + 1 := by omega
      clear hO
      go_wp2_with fail
      refine (odd_any R (k + 6 + 6 * i) n _ hR (by omega) (by omega)).mono ?_
      rintro e w5 ⟨bb, rfl, hR5, hh5⟩
      obtain ⟨hc5, hf5⟩ := gcell hh5
      have hz5 := hh5.size
      have e0' := (hc5 w2.heap.size 0 hT hRT).trans e0
      have e1' := (hc5 w2.heap.size 1 hT hRT).trans e1
      have e2' := (hc5 w2.heap.size 2 hT hRT).trans e2
      have fe0' := (hf5 w2.heap.size 0 hT hRT).trans fe0
      have fe1' := (hf5 w2.heap.size 1 hT hRT).trans fe1
      have fe2' := (hf5 w2.heap.size 2 hT hRT).trans fe2
      have s0' := (hc5 w.heap.size 0 hwr hRne).trans s0
      have s1' := (hc5 w.heap.size 1 hwr hRne).trans s1
      have s2' := (hc5 w.heap.size 2 hwr hRne).trans s2
      have fs0' := (hf5 w.heap.size 0 hwr hRne).trans fs0
      have fs1' := (hf5 w.heap.size 1 hwr hRne).trans fs1
      have fs2' := (hf5 w.heap.size 2 hwr hRne).trans fs2
      have hO6 := own_grows HO.out hh5 hRb
      have hg6 := gr_trans hg hh5
      have HP6 := Lib.hid (IsPairs.of_owns hO6)
      have HO6 := Lib.hid hO6
      have hT5 : w2.heap.size < w5.heap.size := by omega
      have hwT' : ¬ w.heap.size = w2.heap.size := by omega
      clear hc5 hf5 e0 e1 e2 fe0 fe1 fe2 s0 s1 s2 fs0 fs1 fs2 HO hg hh5 hO6 hR
      cases bb with
      | true =>
        go_wp2_with fail
        refine (pick_any R (k + 6 + 6 * i + 1) 2 _ hR5 (by omega) (by omega)).mono ?_
        rintro e w6 ⟨v, rfl, va, vb, hR6, hh6⟩
        obtain ⟨hc6, hf6⟩ := gcell hh6
        have hz6 := hh6.size
        have hw5 : w.heap.size < w5.heap.size := by omega
        have e0x := (hc6 w2.heap.size 0 hT5 hRT).trans e0'
        have fe0x := (hf6 w2.heap.size 0 hT5 hRT).trans fe0'
        have e1x := (hc6 w2.heap.size 1 hT5 hRT).trans e1'
        have fe1x := (hf6 w2.heap.size 1 hT5 hRT).trans fe1'
        have e2x := (hc6 w2.heap.size 2 hT5 hRT).trans e2'
        have fe2x := (hf6 w2.heap.size 2 hT5 hRT).trans fe2'
        have s0x := (hc6 w.heap.size 0 hw5 hRne).trans s0'
        have fs0x := (hf6 w.heap.size 0 hw5 hRne).trans fs0'
        have s1x := (hc6 w.heap.size 1 hw5 hRne).trans s1'
        have fs1x := (hf6 w.heap.size 1 hw5 hRne).trans fs1'
        have s2x := (hc6 w.heap.size 2 hw5 hRne).trans s2'
        have fs2x := (hf6 w.heap.size 2 hw5 hRne).trans fs2'
        have hO7 := own_grows HO6.out hh6 hRb
        have hg7 := gr_trans hg6 hh6
        have HP7 := Lib.hid (IsPairs.of_owns hO7)
        have HO7 := Lib.hid hO7
        have hT6 : w2.heap.size < w6.heap.size := by omega
        have hwT : w.heap.size ≤ w2.heap.size := by omega
        have hRT' : R < w2.heap.size := by omega
        have hw6 : w.heap.size < w6.heap.size := by omega
        clear hc6 hf6 e0' e1' e2' fe0' fe1' fe2' s0' s1' s2' fs0' fs1' fs2' hh6 hO7 HO6 HP6 hR5 hg6
        rcases (show v = 0 ∨ v = 1 by omega) with rfl | rfl
        · go_wp2_with fail
          refine bodyPost_ret (v := .agg #[.int .i64 5, .int .i64 q, .slice a L.length c]) (by simp [results, Try.results39, go_sem]; go_simp) rfl ⟨5, q, a, c, L, rfl, ?_, by omega, ?_, ?_⟩
          · exact ((((HP7.out.set (p := ⟨w2.heap.size, 0, none⟩) (by show w2.heap.size < _; omega) _).set (p := ⟨w.heap.size, 0, none⟩) (by show w.heap.size < _; omega) _).set (p := ⟨w.heap.size, 1, none⟩) (by show w.heap.size < _; omega) _).set (p := ⟨w.heap.size, 2, none⟩) (by show w.heap.size < _; omega) _).mono (by omega) (by simp [World.setCell]) (by simp [World.setCell])
          · exact Rd.mono (rd_setD (rd_setD (rd_setD (rd_setD hR6 hRT' _) hRlt _) hRlt _) hRlt _) (by omega)
          · exact gr_setD (gr_setD (gr_setD (gr_setD hg7 hwT _) (Nat.le_refl _) _) (Nat.le_refl _) _) (Nat.le_refl _) _
        · go_wp2_with (at_builtin; refine wpList_append_pairs _ rfl _ _ 25 rfl (w2.heap.size + 1) 24 i0 _ 16 Try.underlying25 hi0 hz0 hzs1 hz2 rfl (.slice a L.length c) L.length (pairCells L) rfl (HO7.out.alloc _) w6.heap.size (w6.heap.size + 1) _ [(0, 5)] rfl (IsPairs.new _ 0 5 _ _ rfl) (L.length + 1) rfl (pairCells (L ++ [(0, 5)])) (pairCells_append _ _) (by unfold maxLen; omega) (by omega) (by simp; omega) ?_)
          intro a7 c7 w7 hown7 hgrow7 hat7
          have hb7 : Below (w2.heap.size + 1) (w6.alloc (.cells #[.int .i64 0, .int .i64 5] 24)) w7 := (Below.refl _ _).grown hgrow7 (by simp; omega) (fun g e => (HO7.out.lt g e).1)
          have hR7 := rd_under (hR6.alloc (.cells #[.int .i64 0, .int .i64 5] 24)) hb7 hRb
          have hg8 : w.grownBy w7 (some R) := gr_own (gr_alloc hg7 _) hgrow7 (fun g e => by have := (HO7.out.lt g e).1; omega)
          have hz7 := hb7.size
          simp at hz7
          have e0y := (hb7.cell (p := ⟨w2.heap.size, 0, none⟩) (by show w2.heap.size < _; omega)).trans (cell_alloc_is _ e0x)
          have fe0y := (hb7.frozen (p := ⟨w2.heap.size, 0, none⟩) (by show w2.heap.size < _; omega)).trans ((frozen?_alloc_cells _ _ _ _).trans fe0x)
          have e1y := (hb7.cell (p := ⟨w2.heap.size, 1, none⟩) (by show w2.heap.size < _; omega)).trans (cell_alloc_is _ e1x)
          have fe1y := (hb7.frozen (p := ⟨w2.heap.size, 1, none⟩) (by show w2.heap.size < _; omega)).trans ((frozen?_alloc_cells _ _ _ _).trans fe1x)
          have e2y := (hb7.cell (p := ⟨w2.heap.size, 2, none⟩) (by show w2.heap.size < _; omega)).trans (cell_alloc_is _ e2x)
          have fe2y := (hb7.frozen (p := ⟨w2.heap.size, 2, none⟩) (by show w2.heap.size < _; omega)).trans ((frozen?_alloc_cells _ _ _ _).trans fe2x)
          have s0y := (hb7.cell (p := ⟨w.heap.size, 0, none⟩) (by show w.heap.size < _; omega)).trans (cell_alloc_is _ s0x)
          have fs0y := (hb7.frozen (p := ⟨w.heap.size, 0, none⟩) (by show w.heap.size < _; omega)).trans ((frozen?_alloc_cells _ _ _ _).trans fs0x)
          have s1y := (hb7.cell (p := ⟨w.heap.size, 1, none⟩) (by show w.heap.size < _; omega)).trans (cell_alloc_is _ s1x)
          have fs1y := (hb7.frozen (p := ⟨w.heap.size, 1, none⟩) (by show w.heap.size < _; omega)).trans ((frozen?_alloc_cells _ _ _ _).trans fs1x)
          have s2y := (hb7.cell (p := ⟨w.heap.size, 2, none⟩) (by show w.heap.size < _; omega)).trans (cell_alloc_is _ s2x)
          have fs2y := (hb7.frozen (p := ⟨w.heap.size, 2, none⟩) (by show w.heap.size < _; omega)).trans ((frozen?_alloc_cells _ _ _ _).trans fs2x)
          have hw7 : w.heap.size < w7.heap.size := by omega
          have hT7 : w2.heap.size < w7.heap.size := by omega
          have HP8 := Lib.hid (IsPairs.of_owns hown7)
          clear hown7 hgrow7 hat7 hb7 HO7 HP7 e0x e1x e2x fe0x fe1x fe2x s0x s1x s2x fs0x fs1x fs2x
          go_wp2_with fail
          refine bodyPost_ret (v := .agg #[.int .i64 p, .int .i64 q, .slice a7 (L.length + 1) c7]) (by simp [results, Try.results39, go_sem]; go_simp) rfl ⟨p, q, a7, c7, L ++ [(0, 5)], by simp, ?_, by simp; omega, ?_, ?_⟩
          · rw [List.length_append, show ([((0 : Int), (5 : Int))] : List (Int × Int)).length = 1 from rfl]
            exact ((((HP8.out.set (p := ⟨w2.heap.size, 2, none⟩) (by show w2.heap.size < _; omega) _).set (p := ⟨w.heap.size, 0, none⟩) (by show w.heap.size < _; omega) _).set (p := ⟨w.heap.size, 1, none⟩) (by show w.heap.size < _; omega) _).set (p := ⟨w.heap.size, 2, none⟩) (by show w.heap.size < _; omega) _).mono (by omega) (by simp [World.setCell]) (by simp [World.setCell])
          · exact Rd.mono (rd_setD (rd_setD (rd_setD (rd_setD hR7 hRT' _) hRlt _) hRlt _) hRlt _) (by omega)
          · exact gr_setD (gr_setD (gr_setD (gr_setD hg8 hwT _) (Nat.le_refl _) _) (Nat.le_refl _) _) (Nat.le_refl _) _
      | false =>
        go_wp2_with fail
        refine bodyPost_ret (v := .agg #[.int .i64 p, .int .i64 q, .slice a L.length c]) (by simp [results, Try.results39, go_sem]; go_simp) rfl ⟨p, q, a, c, L, rfl, ?_, by omega, ?_, ?_⟩
        · exact (((HP6.out.set (p := ⟨w.heap.size, 0, none⟩) (by show w.heap.size < _; omega) _).set (p := ⟨w.heap.size, 1, none⟩) (by show w.heap.size < _; omega) _).set (p := ⟨w.heap.size, 2, none⟩) (by show w.heap.size < _; omega) _).mono (by omega) (by simp [World.setCell]) (by simp [World.setCell])
        · exact Rd.mono (rd_setD (rd_setD (rd_setD hR5 hRlt _) hRlt _) hRlt _) (by omega)
        · exact gr_setD (gr_setD (gr_setD hg6 (Nat.le_refl _) _) (Nat.le_refl _) _) (Nat.le_refl _) _
    · have hj0 : (0 : Int) < (j : Int) := by omega
      have wj : IntKind.i64.wrap ((j : Int) - 1) = ((j - 1 : Nat) : Int) := by rw [IntKind.wrap_i64]; omega
      have hcall := fun (W : World) (D D' : Nat) (x y z : Int) (hI : IsPairs D D' W (.slice a L.length c) L) => specDo_any D D' p q x y z L _ W hI (by omega)
      unfold DidS at hcall
      have HS := Lib.hid hcall
      have HP := Lib.hid (IsPairs.of_owns hO)
      have HO := Lib.hid hO
      have hL8 : L.length < 8 := by omega
      have hRb : R < w2.heap.size + 1 := by omega
      clear hcall hO
      go_wp2_with fail
      go_cut [8, 9] from 18 to 30 (fun s8 s9 wx => ∃ (b : Nat) (x y z : Int) (a5 : Option Addr) (c5 : Nat), s8 = .pointer (some ⟨b, 0, none⟩) ∧ s9 = .bool (doR ⟨(p, q), L⟩ ⟨x, y, z⟩).2 ∧ (wr.heap.size ≤ b ∧ b < wx.heap.size) ∧ (wx.cell? ⟨b, 0, none⟩ = some (.int .i64 (doR ⟨(p, q), L⟩ ⟨x, y, z⟩).1.now.1) ∧ wx.cell? ⟨b, 1, none⟩ = some (.int .i64 (doR ⟨(p, q), L⟩ ⟨x, y, z⟩).1.now.2) ∧ wx.cell? ⟨b, 2, none⟩ = some (.slice a5 (doR ⟨(p, q), L⟩ ⟨x, y, z⟩).1.past.length c5)) ∧ wx.ownsRow wr.heap.size 24 2 (.slice a5 (doR ⟨(p, q), L⟩ ⟨x, y, z⟩).1.past.length c5) (doR ⟨(p, q), L⟩ ⟨x, y, z⟩).1.past.length (pairCells (doR ⟨(p, q), L⟩ ⟨x, y, z⟩).1.past) ∧ Rd wx R (k + 6 + 6 * i + 6) ∧ wr.grownBy wx (some R))
      case first =>
        go_region_held3 (fun W_ => W_.cell? ⟨w2.heap.size, 0, none⟩ = some (.int .i64 p) ∧ W_.cell? ⟨w2.heap.size, 1, none⟩ = some (.int .i64 q) ∧ W_.cell? ⟨w2.heap.size, 2, none⟩ = some (.slice a L.length c))
          ((go_split_ands; refine ⟨?_, ?_, ?_⟩ <;> (repeat (first | with_reducible assumption | with_reducible refine cell_alloc_is _ ?_ | with_reducible refine cell_drew_is ?_ | with_reducible refine cell_set_is ?_ ?_ | omega)); done))
          ((first | (go_at_call 44; refine (l20Deed_any R (k + 6 + 6 * i) _ (by (repeat (first | with_reducible assumption | with_reducible apply rd_drewD | with_reducible apply Rd.alloc))) (by omega)).mono ?_; rintro e w_2 ⟨x, y, z, rfl, hR_2, hh_2⟩; obtain ⟨hc_2, hf_2⟩ := gcell hh_2; have hz_2 := hh_2.size; (try simp at hz_2); (have hq_2 : wr.heap.size ≤ w_2.heap.size := by omega); (try have hq_2b : wr.heap.size < w_2.heap.size := by omega); (have hne_2 : ¬ wr.heap.size = R := by omega); (have hne_3 : ¬ w_2.heap.size = R := by omega); (have hP_2 := pairs_grows (show IsPairs (w2.heap.size + 1) wr.heap.size _ (.slice a L.length c) L by (repeat (first | exact HP.out | apply IsPairs.allocd | apply IsPairs.drew))) hh_2 hRb); have kx0 := (hh_2.cell_far ⟨w2.heap.size, 0, none⟩ (by first | omega | (simp <;> omega)) (by simpa using hRT)).trans (show _ = some (.int .i64 p) by (repeat (first | with_reducible assumption | with_reducible refine cell_alloc_is _ ?_ | with_reducible refine cell_drew_is ?_ | with_reducible refine cell_set_is ?_ ?_ | omega))); have kx1 := (hh_2.cell_far ⟨w2.heap.size, 1, none⟩ (by first | omega | (simp <;> omega)) (by simpa using hRT)).trans (show _ = some (.int .i64 q) by (repeat (first | with_reducible assumption | with_reducible refine cell_alloc_is _ ?_ | with_reducible refine cell_drew_is ?_ | with_reducible refine cell_set_is ?_ ?_ | omega))); have kx2 := (hh_2.cell_far ⟨w2.heap.size, 2, none⟩ (by first | omega | (simp <;> omega)) (by simpa using hRT)).trans (show _ = some (.slice a L.length c) by (repeat (first | with_reducible assumption | with_reducible refine cell_alloc_is _ ?_ | with_reducible refine cell_drew_is ?_ | with_reducible refine cell_set_is ?_ ?_ | omega)))) | (go_at_call 23; refine (HS.out _ _ _ x y z (by (repeat (first | exact hP_2 | apply IsPairs.allocd)))).mono ?_; rintro e w_4 ⟨a4, c4, rfl, hI4, hO4, hb_4⟩; obtain ⟨hc_4, hf_4⟩ := bcell hb_4; have hz_4 := hb_4.size; (try simp at hz_4); (try have hq_4 : wr.heap.size < w_4.heap.size := by omega); (try have hq_4b : w_2.heap.size < w_4.heap.size := by omega); have kx0 := (hb_4.cell (p := ⟨w2.heap.size, 0, none⟩) (by first | omega | (simp <;> omega))).trans (show _ = some (.int .i64 p) by (repeat (first | with_reducible assumption | with_reducible refine cell_alloc_is _ ?_ | with_reducible refine cell_drew_is ?_ | with_reducible refine cell_set_is ?_ ?_ | omega))); have kx1 := (hb_4.cell (p := ⟨w2.heap.size, 1, none⟩) (by first | omega | (simp <;> omega))).trans (show _ = some (.int .i64 q) by (repeat (first | with_reducible assumption | with_reducible refine cell_alloc_is _ ?_ | with_reducible refine cell_drew_is ?_ | with_reducible refine cell_set_is ?_ ?_ | omega))); have kx2 := (hb_4.cell (p := ⟨w2.heap.size, 2, none⟩) (by first | omega | (simp <;> omega))).trans (show _ = some (.slice a L.length c) by (repeat (first | with_reducible assumption | with_reducible refine cell_alloc_is _ ?_ | with_reducible refine cell_drew_is ?_ | with_reducible refine cell_set_is ?_ ?_ | omega)))) | fail))
        all_goals (go_wp2_with fail; go_meet)
        all_goals
          case rel =>
            have hlt4 := (hO4 hL8).lt
            refine ⟨_, x, y, z, a4, c4, rfl, rfl, ⟨?_, ?_⟩, ⟨?_, ?_, ?_⟩, ?_, ?_, ?_⟩
            · first | omega | (simp <;> omega)
            · first | omega | (simp <;> omega)
            · go_simp
            · go_simp
            · go_simp
            · first
                | exact (own_le (base' := wr.heap.size) (hO4 hL8) (by first | omega | (simp <;> omega))).alloc _
                | (refine ownsRow_setCell_other (ownsRow_setCell_other (ownsRow_setCell_other (own_le (base' := wr.heap.size) (hO4 hL8) (by first | omega | (simp <;> omega))) ?_ _) ?_ _) ?_ _ <;> (intro e; have := hlt4 _ e; simp at this; omega))
            · (repeat (first | with_reducible assumption | with_reducible apply rd_setD | with_reducible apply Rd.alloc | refine Rd.below ?_ hb_4 (Nat.le_refl _) | omega))
            · (repeat (first | with_reducible exact gr_refl _ _ | with_reducible apply gr_setD | with_reducible apply gr_alloc | refine gr_below ?_ hb_4 | refine gr_trans ?_ hh_2 | with_reducible apply gr_drew | omega))
      case rest =>
        obtain ⟨b, x, y, z, a5, c5, rfl, rfl, ⟨hb1, hb2⟩, ⟨q0', q1', q2'⟩, hO5, hR5, hg5⟩ := hcut
        rename World => w5
        obtain ⟨hc5, hf5⟩ := gcell hg5
        have hz5 := hg5.size
        have hwr : w.heap.size < wr.heap.size := by omega
        have e0' := (hc5 w2.heap.size 0 hT hRT).trans e0
        have e1' := (hc5 w2.heap.size 1 hT hRT).trans e1
        have e2' := (hc5 w2.heap.size 2 hT hRT).trans e2
        have fe0' := (hf5 w2.heap.size 0 hT hRT).trans fe0
        have fe1' := (hf5 w2.heap.size 1 hT hRT).trans fe1
        have fe2' := (hf5 w2.heap.size 2 hT hRT).trans fe2
        have s0' := (hc5 w.heap.size 0 hwr hRne).trans s0
        have s1' := (hc5 w.heap.size 1 hwr hRne).trans s1
        have s2' := (hc5 w.heap.size 2 hwr hRne).trans s2
        have fs0' := (hf5 w.heap.size 0 hwr hRne).trans fs0
        have fs1' := (hf5 w.heap.size 1 hwr hRne).trans fs1
        have fs2' := (hf5 w.heap.size 2 hwr hRne).trans fs2
        have hm := doR_more ⟨(p, q), L⟩ ⟨x, y, z⟩
        have hO6 := own_grows HO.out hg5 hRb
        have hg6 := gr_trans hg hg5
        have hT5 : w2.heap.size < w5.heap.size := by omega
        have hwT : w.heap.size ≤ w2.heap.size := by omega
        have hRT' : R < w2.heap.size := by omega
        have hwT' : ¬ w.heap.size = w2.heap.size := by omega
        obtain ⟨p', q', L', ok, hres⟩ : ∃ p' q' L' ok, doR ⟨(p, q), L⟩ ⟨x, y, z⟩ = (⟨(p', q'), L'⟩, ok) := ⟨_, _, _, _, rfl⟩
        rw [hres] at hm q0' q1' q2' hO5
        rw [hres]
        dsimp only at hm q0' q1' q2' hO5 ⊢
        have hne5 : ∀ g, (Value.slice a5 L'.length c5).ownBlock = some g → w2.heap.size < g := fun g e => by have := (hO5.lt g e).1; omega
        have HO5 := Lib.hid (own_le (base' := w2.heap.size + 1) hO5 (by omega))
        have HO6 := Lib.hid hO6
        clear hc5 hf5 e0 e1 e2 fe0 fe1 fe2 s0 s1 s2 fs0 fs1 fs2 HS HP HO hg hg5 hO5 hO6 hres hR
        cases ok with
        | true =>
          go_wp2_with fail
          go_roundw
          case rel =>
            refine ⟨j - 1, i + 1, p', q', L', a5, c5, rfl, by omega, by omega, ⟨by go_simp, by go_simp, by go_simp, by go_simp, by go_simp, by go_simp⟩, ⟨by go_simp, by go_simp, by go_simp, by go_simp, by go_simp, by go_simp⟩, ?_, by simp [World.setCell]; omega, ?_, ?_⟩
            · refine ownsRow_setCell_other (ownsRow_setCell_other (ownsRow_setCell_other HO5.out ?_ _) ?_ _) ?_ _ <;> (intro e; exact absurd (hne5 _ e) (Nat.lt_irrefl _))
            · exact Rd.mono (rd_setD (rd_setD (rd_setD hR5 hRT' _) hRT' _) hRT' _) (by omega)
            · exact gr_setD (gr_setD (gr_setD hg6 hwT _) hwT _) hwT _
          case measure => simp [intOf]; omega
        | false =>
          go_wp2_with fail
          go_roundw
          case rel => exact ⟨j - 1, i + 1, p, q, L, a, c, rfl, by omega, by omega, ⟨e0', e1', e2', fe0', fe1', fe2'⟩, ⟨s0', s1', s2', fs0', fs1', fs2'⟩, HO6.out, hT5, hR5.mono (by omega), hg6⟩
          case measure => simp [intOf]; omega
end Go.Proofs.Ytigcomhhgfgmgaa
namespace Go.Proofs.Ytigcomhhgfgmgaa
open Go.RowKit
/-- What a draw of a desk returns. -/
def DeskSeen (w : World) (e : Ending) (w' : World) : Prop :=
  ∃ (p q : Int) (a : Option Addr) (c : Nat) (L : List (Int × Int)), e = .returned (.agg #[.int .i64 p, .int .i64 q, .slice a L.length c]) ∧ IsPairs w.heap.size w'.heap.size w' (.slice a L.length c) L ∧ L.length ≤ 6 ∧ Below w.heap.size w w'
/-- What a draw of a desk and a deed returns. -/
def DeskDeedSeen (w : World) (e : Ending) (w' : World) : Prop :=
  ∃ (p q : Int) (a : Option Addr) (c : Nat) (L : List (Int × Int)) (x y z : Int), e = .returned (.tuple #[.agg #[.int .i64 p, .int .i64 q, .slice a L.length c], .agg #[.int .i64 x, .int .i64 y, .int .i64 z]]) ∧ IsPairs w.heap.size w'.heap.size w' (.slice a L.length c) L ∧ L.length ≤ 6 ∧ Below w.heap.size w w'
/-- What a draw of a desk and deeds returns. -/
def DeskDeedsSeen (w : World) (e : Ending) (w' : World) : Prop :=
  ∃ (p q : Int) (a : Option Addr) (c : Nat) (L : List (Int × Int)) (b : Option Addr) (d : Nat) (X : List DeedN), e = .returned (.tuple #[.agg #[.int .i64 p, .int .i64 q, .slice a L.length c], .slice b X.length d]) ∧ IsPairs w.heap.size w'.heap.size w' (.slice a L.length c) L ∧ L.length ≤ 6 ∧ IsDeeds w.heap.size w'.heap.size w' (.slice b X.length d) X ∧ X.length ≤ 41 ∧ Below w.heap.size w w'
/-- The first cells of a block, which may be written; and written. -/
def C3 (w : World) (b : Nat) (u0 u1 u2 : Value) : Prop := (w.cell? ⟨b, 0, none⟩ = some u0 ∧ w.cell? ⟨b, 1, none⟩ = some u1 ∧ w.cell? ⟨b, 2, none⟩ = some u2) ∧ w.frozen? ⟨b, 0, none⟩ = false ∧ w.frozen? ⟨b, 1, none⟩ = false ∧ w.frozen? ⟨b, 2, none⟩ = false
def set3 (w : World) (b : Nat) (v0 v1 v2 : Value) : World := ((w.setCell ⟨b, 0, none⟩ v0).setCell ⟨b, 1, none⟩ v1).setCell ⟨b, 2, none⟩ v2
theorem set3_other {w : World} {b b' o : Nat} {u v0 v1 v2 : Value} (h : w.cell? ⟨b', o, none⟩ = some u) (hne : ¬ (b' = b ∧ (o = 0 ∨ o = 1 ∨ o = 2))) : (set3 w b v0 v1 v2).cell? ⟨b', o, none⟩ = some u := by
  have one : ∀ (w : World) (k : Nat) (v : Value), k = 0 ∨ k = 1 ∨ k = 2 → w.cell? ⟨b', o, none⟩ = some u → (w.setCell ⟨b, k, none⟩ v).cell? ⟨b', o, none⟩ = some u := fun w k v hk h =>
    (World.cell?_setCell_other _ _ _ _ (fun e => hne (by injection e with e1 e2; exact ⟨e1.symm, by omega⟩))).trans h
  exact one _ 2 _ (by omega) (one _ 1 _ (by omega) (one _ 0 _ (by omega) h))
theorem set3_frozen {w : World} {b : Nat} {v0 v1 v2 : Value} (p : Addr) : (set3 w b v0 v1 v2).frozen? p = w.frozen? p := by
  unfold set3; rw [World.frozen?_setCell, World.frozen?_setCell, World.frozen?_setCell]
theorem set3_size {w : World} {b : Nat} {v0 v1 v2 : Value} : (set3 w b v0 v1 v2).heap.size = w.heap.size := by simp [set3, World.setCell]
theorem C3.set {w : World} {b : Nat} {u0 u1 u2 : Value} (h : C3 w b u0 u1 u2) (v0 v1 v2 : Value) : C3 (set3 w b v0 v1 v2) b v0 v1 v2 := by
  obtain ⟨⟨h0, h1, h2⟩, f0, f1, f2⟩ := h
  have ne : ∀ i j : Nat, i ≠ j → (⟨b, i, none⟩ : Addr) ≠ ⟨b, j, none⟩ := fun i j hij e => hij (by injection e)
  refine ⟨⟨?_, ?_, ?_⟩, by rw [set3_frozen]; exact f0, by rw [set3_frozen]; exact f1, by rw [set3_frozen]; exact f2⟩
  · unfold set3
    rw [World.cell?_setCell_other _ _ _ _ (ne 2 0 (by decide)), World.cell?_setCell_other _ _ _ _ (ne 1 0 (by decide))]
    exact World.cell?_setCell_same' _ _ _ (by rw [h0]; rfl)
  · unfold set3
    rw [World.cell?_setCell_other _ _ _ _ (ne 2 1 (by decide))]
    exact World.cell?_setCell_same' _ _ _ (by rw [World.cell?_setCell_other _ _ _ _ (ne 0 1 (by decide)), h1]; rfl)
  · unfold set3
    exact World.cell?_setCell_same' _ _ _ (by rw [World.cell?_setCell_other _ _ _ _ (ne 1 2 (by decide)), World.cell?_setCell_other _ _ _ _ (ne 0 2 (by decide)), h2]; rfl)
theorem C3.other {w : World} {b b' : Nat} {u0 u1 u2 : Value} (h : C3 w b u0 u1 u2) (hne : b ≠ b') (v0 v1 v2 : Value) : C3 (set3 w b' v0 v1 v2) b u0 u1 u2 := by
  obtain ⟨⟨h0, h1, h2⟩, f0, f1, f2⟩ := h
  exact ⟨⟨set3_other h0 (fun e => hne e.1), set3_other h1 (fun e => hne e.1), set3_other h2 (fun e => hne e.1)⟩, by rw [set3_frozen]; exact f0, by rw [set3_frozen]; exact f1, by rw [set3_frozen]; exact f2⟩
theorem C3.lt {w : World} {b : Nat} {u0 u1 u2 : Value} (h : C3 w b u0 u1 u2) : b < w.heap.size := World.block_lt_of_cell? w ⟨b, 0, none⟩ h.1.1
theorem C3.grow {w w' : World} {b R : Nat} {u0 u1 u2 : Value} (h : C3 w b u0 u1 u2) (hg : w.grownBy w' (some R)) (hne : b ≠ R) : C3 w' b u0 u1 u2 := by
  have hb := h.lt
  obtain ⟨hc, hf⟩ := gcell hg
  obtain ⟨⟨h0, h1, h2⟩, f0, f1, f2⟩ := h
  exact ⟨⟨(hc b 0 hb hne).trans h0, (hc b 1 hb hne).trans h1, (hc b 2 hb hne).trans h2⟩, (hf b 0 hb hne).trans f0, (hf b 1 hb hne).trans f1, (hf b 2 hb hne).trans f2⟩
theorem rd_set3 {w : World} {R k b : Nat} {u0 u1 u2 : Value} (h : Rd w R k) (c : C3 w b u0 u1 u2) (hb : b ≠ R) (n0 : ∀ x, u0 ≠ .int .u8 x) (n1 : ∀ x, u1 ≠ .int .u8 x) (n2 : ∀ x, u2 ≠ .int .u8 x) (v0 v1 v2 : Value) : Rd (set3 w b v0 v1 v2) R k := by
  obtain ⟨⟨c0, c1, c2⟩, _⟩ := c
  obtain ⟨a, len, cap, p, h0, h1, hf, hp, hl, hs⟩ := h
  refine ⟨a, len, cap, p, set3_other h0 (fun e => hb e.1.symm), set3_other h1 (fun e => hb e.1.symm), by rw [set3_frozen]; exact hf, hp, hl, ?_⟩
  rcases hs with hs | ⟨g, off, ha, hgR, hc⟩
  · exact .inl hs
  · refine .inr ⟨g, off, ha, hgR, fun i hi => ?_⟩
    obtain ⟨x, x0, x1, hx⟩ := hc i hi
    refine ⟨x, x0, x1, set3_other hx (fun e => ?_)⟩
    obtain ⟨rfl, e | e | e⟩ := e
    · rw [e, c0] at hx; exact n0 x (Option.some.inj hx)
    · rw [e, c1] at hx; exact n1 x (Option.some.inj hx)
    · rw [e, c2] at hx; exact n2 x (Option.some.inj hx)
theorem pairs_set3 {B C b : Nat} {w : World} {v : Value} {L : List (Int × Int)} (h : IsPairs B C w v L) (hb : b < B) (v0 v1 v2 : Value) : IsPairs B C (set3 w b v0 v1 v2) v L :=
  ((h.set (p := ⟨b, 0, none⟩) hb v0).set (p := ⟨b, 1, none⟩) hb v1).set (p := ⟨b, 2, none⟩) hb v2
theorem below_set3 {B b : Nat} {w w' : World} (h : Below B w w') (hb : B ≤ b) (v0 v1 v2 : Value) : Below B w (set3 w' b v0 v1 v2) :=
  ((h.setCell (p := ⟨b, 0, none⟩) hb v0).setCell (p := ⟨b, 1, none⟩) hb v1).setCell (p := ⟨b, 2, none⟩) hb v2
theorem IsDeeds.far {B C : Nat} {w w' : World} {v : Value} {L : List DeedN} (h : IsDeeds B C w v L) (hz : w.heap.size ≤ w'.heap.size) (hb : ∀ g, B ≤ g → g < C → w'.heap[g]? = w.heap[g]?) : IsDeeds B C w' v L := by
  obtain ⟨a, cap, rfl, hC, hs⟩ := h
  refine ⟨a, cap, rfl, Nat.le_trans hC hz, ?_⟩
  rcases hs with hs | ⟨g, off, ha, h1, h2, hc, hf⟩
  · exact .inl hs
  · exact .inr ⟨g, off, ha, h1, h2, fun i p hi => ⟨(World.cell?_of_block (a := ⟨g, off + i * 3, none⟩) (hb g h1 h2.1)).trans (hc i p hi).1, (World.cell?_of_block (a := ⟨g, off + i * 3 + 1, none⟩) (hb g h1 h2.1)).trans (hc i p hi).2.1, (World.cell?_of_block (a := ⟨g, off + i * 3 + 2, none⟩) (hb g h1 h2.1)).trans (hc i p hi).2.2⟩, fun i hi => (World.frozen?_of_block (a := ⟨g, off + i, none⟩) (hb g h1 h2.1)).trans (hf i hi)⟩
set_option maxHeartbeats 2000000 in
theorem drawDeskOk_any (w : World) (a : Option Addr) (len cap : Nat) (zs : List Int) (h : IsRow w a len cap zs) :
    Calls Try.prog 11 #[.slice a len cap] w (DeskSeen w) := by
  go_enter Try.func11, Try.ntmps11
  go_wp2_with fail
  refine (open_any _ _ _ _ zs (h.below ((Below.refl _ _).alloc (Nat.le_refl _) _))).mono ?_
  rintro e w1 ⟨rfl, hR1, hh1, hzR1⟩
  try simp only [World.size_alloc] at hzR1
  try simp only [World.size_alloc] at hR1
  obtain ⟨hc1, hf1⟩ := bcell hh1
  have hz1 := hh1.size
  try simp only [World.size_alloc] at hz1
  have hz1_0 : w.heap.size < w1.heap.size := by omega
  have kb1_0_0 : w1.cell? ⟨w.heap.size, 0, none⟩ = some (.int .i64 0) := by go_simp
  have kf1_0_0 : w1.frozen? ⟨w.heap.size, 0, none⟩ = false := by go_simp
  have kb1_0_1 : w1.cell? ⟨w.heap.size, 1, none⟩ = some (.int .i64 0) := by go_simp
  have kf1_0_1 : w1.frozen? ⟨w.heap.size, 1, none⟩ = false := by go_simp
  have kb1_0_2 : w1.cell? ⟨w.heap.size, 2, none⟩ = some (.slice none 0 0) := by go_simp
  have kf1_0_2 : w1.frozen? ⟨w.heap.size, 2, none⟩ = false := by go_simp
  clear hc1 hf1
  go_wp2_with fail
  refine (l20Desk_any (w.heap.size + 1) 0 2 _ hR1 (by omega) (by omega)).mono ?_
  rintro e w2 ⟨p, q, a2, c2, L, rfl, hI2, hL2, hR2, hh2⟩
  obtain ⟨hc2, hf2⟩ := gcell hh2
  have hz2 := hh2.size
  try simp only [World.size_alloc] at hz2
  have hz2_0 : w.heap.size < w2.heap.size := by omega
  have hn2_0 : ¬ w.heap.size = (w.heap.size + 1) := by omega
  have kb2_0_0 : w2.cell? ⟨w.heap.size, 0, none⟩ = some (.int .i64 0) := by go_simp
  have kf2_0_0 : w2.frozen? ⟨w.heap.size, 0, none⟩ = false := by go_simp
  have kb2_0_1 : w2.cell? ⟨w.heap.size, 1, none⟩ = some (.int .i64 0) := by go_simp
  have kf2_0_1 : w2.frozen? ⟨w.heap.size, 1, none⟩ = false := by go_simp
  have kb2_0_2 : w2.cell? ⟨w.heap.size, 2, none⟩ = some (.slice none 0 0) := by go_simp
  have kf2_0_2 : w2.frozen? ⟨w.heap.size, 2, none⟩ = false := by go_simp
  clear hc2 hf2
  go_wp2_with fail
  refine bodyPost_ret (v := .agg #[.int .i64 p, .int .i64 q, .slice a2 L.length c2]) (by simp [results, Try.results11, go_sem, kb2_0_0, kb2_0_1, kb2_0_2]) rfl ⟨p, q, a2, c2, L, rfl, ?_, hL2, ?_⟩
  · exact (((hI2.set (p := ⟨w.heap.size, 0, none⟩) (by show w.heap.size < _; omega) _).set (p := ⟨w.heap.size, 1, none⟩) (by show w.heap.size < _; omega) _).set (p := ⟨w.heap.size, 2, none⟩) (by show w.heap.size < _; omega) _).mono (by omega) (by simp [World.setCell]) (by simp [World.setCell])
  · (repeat (first | exact Below.refl _ _ | refine Below.setCell ?_ (by first | omega | (simp <;> omega)) _ | refine Below.alloc ?_ (by first | omega | (simp <;> omega)) _ | refine Below.drew ?_ | refine Below.trans ?_ (Below.mono (by assumption) (by first | omega | (simp <;> omega))) | refine Below.grown ?_ (by assumption) (by first | omega | (simp <;> omega)) (fun k e => by cases e; first | omega | (simp <;> omega))))
/-- What lies in the world while a desk and what is drawn behind it are handed back. -/
def BackG (w : World) (rr ss B C R T A k m : Nat) (p q : Int) (a2 : Option Addr) (c2 : Nat) (L : List (Int × Int)) (l : Array Bool) (W : World) : Prop :=
  Below w.heap.size w W ∧ Rd W R (k + m * indD l rr) ∧ IsPairs B C W (.slice a2 L.length c2) L ∧ C3 W T (.int .i64 p) (.int .i64 q) (.slice a2 L.length c2) ∧
    ∃ (x y : Int) (a : Option Addr) (n c : Nat), C3 W A (.int .i64 x) (.int .i64 y) (.slice a n c) ∧ (l.getD ss false = true → x = p ∧ y = q ∧ (.slice a n c : Value) = .slice a2 L.length c2)
theorem BackG.same {w : World} {rr ss B C R T A k m : Nat} {p q : Int} {a2 : Option Addr} {c2 : Nat} {L : List (Int × Int)} {l : Array Bool} {W : World} (h : BackG w rr ss B C R T A k m p q a2 c2 L l W) {i : Nat} (h2 : i ≠ rr) (h3 : i ≠ ss) : BackG w rr ss B C R T A k m p q a2 c2 L (l.setIfInBounds i true) W := by
  obtain ⟨hb, hr, hi, ht, x, y, a, n, c, hA, hl⟩ := h
  exact ⟨hb, by rw [indD_other h2]; exact hr, hi, ht, x, y, a, n, c, hA, fun e => hl (by rwa [getD_set_other _ h3] at e)⟩
/-- The call of a draw. -/
theorem BackG.call {w : World} {rr ss B C R T A k m : Nat} {p q : Int} {a2 : Option Addr} {c2 : Nat} {L : List (Int × Int)} {l : Array Bool} {W W' : World} (h : BackG w rr ss B C R T A k m p q a2 c2 L l W) (hl2 : l.getD rr true = false) (hrs : rr ≠ ss) (hr : Rd W' R (k + m * indD l rr + m)) (hg : W.grownBy W' (some R)) (hRB : R < B) (hRw : w.heap.size ≤ R) (hT : T ≠ R) (hA : A ≠ R) : BackG w rr ss B C R T A k m p q a2 c2 L (l.setIfInBounds rr true) W' := by
  obtain ⟨hb, _, hi, ht, x, y, a, n, c, hAc, hl⟩ := h
  refine ⟨hb.grown hg hb.size (fun k e => by cases e; exact hRw), ?_, pairs_grows hi hg hRB, ht.grow hg hT, x, y, a, n, c, hAc.grow hg hA, fun e => hl (by rwa [getD_set_other _ hrs] at e)⟩
  rw [indD_self hl2, Nat.mul_add, Nat.mul_one, ← Nat.add_assoc]
  exact hr
/-- The desk's store. -/
theorem BackG.desk {w : World} {rr ss B C R T A k m : Nat} {p q : Int} {a2 : Option Addr} {c2 : Nat} {L : List (Int × Int)} {l : Array Bool} {W : World} (h : BackG w rr ss B C R T A k m p q a2 c2 L l W) (hrs : ss ≠ rr) (hAB : A < B) (hAw : w.heap.size ≤ A) (hTA : T ≠ A) (hAR : A ≠ R) : BackG w rr ss B C R T A k m p q a2 c2 L (l.setIfInBounds ss true) (set3 W A (.int .i64 p) (.int .i64 q) (.slice a2 L.length c2)) := by
  obtain ⟨hb, hr, hi, ht, x, y, a, n, c, hA, _⟩ := h
  exact ⟨below_set3 hb hAw _ _ _, by rw [indD_other hrs]; exact rd_set3 hr hA hAR (fun _ e => by cases e) (fun _ e => by cases e) (fun _ e => by cases e) _ _ _, pairs_set3 hi hAB _ _ _, ht.other hTA _ _ _, p, q, a2, L.length, c2, hA.set _ _ _, fun _ => ⟨rfl, rfl, rfl⟩⟩
/-- A store elsewhere. -/
theorem BackG.elsewhere {w : World} {rr ss B C R T A D k m : Nat} {p q : Int} {a2 : Option Addr} {c2 : Nat} {L : List (Int × Int)} {l : Array Bool} {W : World} (h : BackG w rr ss B C R T A k m p q a2 c2 L l W) {u0 u1 u2 : Value} (hD : C3 W D u0 u1 u2) (n0 : ∀ x, u0 ≠ .int .u8 x) (n1 : ∀ x, u1 ≠ .int .u8 x) (n2 : ∀ x, u2 ≠ .int .u8 x) (hDB : D < B) (hDw : w.heap.size ≤ D) (hTD : T ≠ D) (hAD : A ≠ D) (hDR : D ≠ R) (v0 v1 v2 : Value) : BackG w rr ss B C R T A k m p q a2 c2 L l (set3 W D v0 v1 v2) := by
  obtain ⟨hb, hr, hi, ht, x, y, a, n, c, hA, hl⟩ := h
  exact ⟨below_set3 hb hDw _ _ _, rd_set3 hr hD hDR n0 n1 n2 _ _ _, pairs_set3 hi hDB _ _ _, ht.other hTD _ _ _, x, y, a, n, c, hA.other hAD _ _ _, hl⟩
def doP (p q : Int) (a2 : Option Addr) (c2 : Nat) (L : List (Int × Int)) (R j : Nat) (v : Value) (_ : World) : Prop :=
  match j with
  | 0 => v = .agg #[.int .i64 p, .int .i64 q, .slice a2 L.length c2]
  | 1 => v = .pointer (some ⟨R, 0, none⟩)
  | 2 => ∃ x y z : Int, v = .agg #[.int .i64 x, .int .i64 y, .int .i64 z]
  | _ => True
theorem arr13 (t : Array Value) (h : t.size = 13) : t = #[t.getD 0 undef, t.getD 1 undef, t.getD 2 undef, t.getD 3 undef, t.getD 4 undef, t.getD 5 undef, t.getD 6 undef, t.getD 7 undef, t.getD 8 undef, t.getD 9 undef, t.getD 10 undef, t.getD 11 undef, t.getD 12 undef] := by
  apply Array.ext
  · simpa using h
  · intro i h1 h2
    have h3 : i < 13 := by omega
    rcases (show i = 0 ∨ i = 1 ∨ i = 2 ∨ i = 3 ∨ i = 4 ∨ i = 5 ∨ i = 6 ∨ i = 7 ∨ i = 8 ∨ i = 9 ∨ i = 10 ∨ i = 11 ∨ i = 12 by omega) with rfl | rfl | rfl | rfl | rfl | rfl | rfl | rfl | rfl | rfl | rfl | rfl | rfl <;> simp [Array.getD, h]
theorem act13 (t : Array Value) (h : t.size = 13) (v2 v3 : Value) (h2 : t.getD 2 undef = v2) (h3 : t.getD 3 undef = v3) : ∃ u0 u1 u4 u5 u6 u7 u8 u9 u10 u11 u12 : Value, t = #[u0, u1, v2, v3, u4, u5, u6, u7, u8, u9, u10, u11, u12] :=
  ⟨_, _, _, _, _, _, _, _, _, _, _, by rw [← h2, ← h3]; exact arr13 t h⟩
set_option linter.unusedSimpArgs false in
set_option maxRecDepth 100000 in
set_option maxHeartbeats 8000000 in
theorem drawDeskDo_any (w : World) (a : Option Addr) (len cap : Nat) (zs : List Int) (h : IsRow w a len cap zs) :
    Calls Try.prog 21 #[.slice a len cap] w (DeskDeedSeen w) := by
  have hen : ∀ (args : Array Value) (w : World), (callFunc 44 args).run Try.prog w = .ok (.enter 44 args) w := enters_of Try.func44 (by kernel_rfl) rfl
  go_enter Try.func21, Try.ntmps21
  go_wp2_with fail
  refine (open_any _ _ _ _ zs (h.below (((Below.refl _ _).alloc (Nat.le_refl _) _).alloc (by simp) _))).mono ?_
  rintro e w1 ⟨rfl, hR1, hh1, hzR1⟩
  try simp only [World.size_alloc] at hzR1
  try simp only [World.size_alloc] at hR1
  obtain ⟨hc1, hf1⟩ := bcell hh1
  have hz1 := hh1.size
  try simp only [World.size_alloc] at hz1
  have hz1_0 : w.heap.size < w1.heap.size := by omega
  have hz1_1 : w.heap.size + 1 < w1.heap.size := by omega
  have kb1_0_0 : w1.cell? ⟨w.heap.size, 0, none⟩ = some (.int .i64 0) := by go_simp
  have kf1_0_0 : w1.frozen? ⟨w.heap.size, 0, none⟩ = false := by go_simp
  have kb1_0_1 : w1.cell? ⟨w.heap.size, 1, none⟩ = some (.int .i64 0) := by go_simp
  have kf1_0_1 : w1.frozen? ⟨w.heap.size, 1, none⟩ = false := by go_simp
  have kb1_0_2 : w1.cell? ⟨w.heap.size, 2, none⟩ = some (.slice none 0 0) := by go_simp
  have kf1_0_2 : w1.frozen? ⟨w.heap.size, 2, none⟩ = false := by go_simp
  have kb1_1_0 : w1.cell? ⟨w.heap.size + 1, 0, none⟩ = some (.int .i64 0) := by go_simp
  have kf1_1_0 : w1.frozen? ⟨w.heap.size + 1, 0, none⟩ = false := by go_simp
  have kb1_1_1 : w1.cell? ⟨w.heap.size + 1, 1, none⟩ = some (.int .i64 0) := by go_simp
  have kf1_1_1 : w1.frozen? ⟨w.heap.size + 1, 1, none⟩ = false := by go_simp
  have kb1_1_2 : w1.cell? ⟨w.heap.size + 1, 2, none⟩ = some (.int .i64 0) := by go_simp
  have kf1_1_2 : w1.frozen? ⟨w.heap.size + 1, 2, none⟩ = false := by go_simp
  clear hc1 hf1
  go_wp2_with fail
  refine (l20Desk_any (w.heap.size + 1 + 1) 0 12 _ hR1 (by omega) (by omega)).mono ?_
  rintro e w2 ⟨p, q, a2, c2, L, rfl, hI2, hL2, hR2, hh2⟩
  obtain ⟨hc2, hf2⟩ := gcell hh2
  have hz2 := hh2.size
  try simp only [World.size_alloc] at hz2
  have hz2_0 : w.heap.size < w2.heap.size := by omega
  have hz2_1 : w.heap.size + 1 < w2.heap.size := by omega
  have hn2_0 : ¬ w.heap.size = (w.heap.size + 1 + 1) := by omega
  have hn2_1 : ¬ w.heap.size + 1 = (w.heap.size + 1 + 1) := by omega
  have kb2_0_0 : w2.cell? ⟨w.heap.size, 0, none⟩ = some (.int .i64 0) := by go_simp
  have kf2_0_0 : w2.frozen? ⟨w.heap.size, 0, none⟩ = false := by go_simp
  have kb2_0_1 : w2.cell? ⟨w.heap.size, 1, none⟩ = some (.int .i64 0) := by go_simp
  have kf2_0_1 : w2.frozen? ⟨w.heap.size, 1, none⟩ = false := by go_simp
  have kb2_0_2 : w2.cell? ⟨w.heap.size, 2, none⟩ = some (.slice none 0 0) := by go_simp
  have kf2_0_2 : w2.frozen? ⟨w.heap.size, 2, none⟩ = false := by go_simp
  have kb2_1_0 : w2.cell? ⟨w.heap.size + 1, 0, none⟩ = some (.int .i64 0) := by go_simp
  have kf2_1_0 : w2.frozen? ⟨w.heap.size + 1, 0, none⟩ = false := by go_simp
  have kb2_1_1 : w2.cell? ⟨w.heap.size + 1, 1, none⟩ = some (.int .i64 0) := by go_simp
  have kf2_1_1 : w2.frozen? ⟨w.heap.size + 1, 1, none⟩ = false := by go_simp
  have kb2_1_2 : w2.cell? ⟨w.heap.size + 1, 2, none⟩ = some (.int .i64 0) := by go_simp
  have kf2_1_2 : w2.frozen? ⟨w.heap.size + 1, 2, none⟩ = false := by go_simp
  clear hc2 hf2
  go_wp2_with fail
  refine region_namedD ?_
  intro w3 hw3
  have hz3 : w3.heap.size = _ := congrArg (fun W : World => W.heap.size) hw3
  try simp at hz3
  have kc0 : C3 w3 (w.heap.size) (.int .i64 0) (.int .i64 0) (.slice none 0 0) := ⟨⟨by rw [hw3]; go_simp, by rw [hw3]; go_simp, by rw [hw3]; go_simp⟩, by rw [hw3]; go_simp, by rw [hw3]; go_simp, by rw [hw3]; go_simp⟩
  have kc1 : C3 w3 (w.heap.size + 1) (.int .i64 0) (.int .i64 0) (.int .i64 0) := ⟨⟨by rw [hw3]; go_simp, by rw [hw3]; go_simp, by rw [hw3]; go_simp⟩, by rw [hw3]; go_simp, by rw [hw3]; go_simp, by rw [hw3]; go_simp⟩
  have kc2 : C3 w3 (w2.heap.size) (.int .i64 p) (.int .i64 q) (.slice a2 L.length c2) := ⟨⟨by rw [hw3]; go_simp, by rw [hw3]; go_simp, by rw [hw3]; go_simp⟩, by rw [hw3]; go_simp, by rw [hw3]; go_simp, by rw [hw3]; go_simp⟩
  have hI3 : IsPairs w1.heap.size w2.heap.size w3 (.slice a2 L.length c2) L := by
    rw [hw3]
    (repeat (first | exact hI2 | refine IsPairs.allocd ?_ _))
  have hR3 := (show Rd w3 (w.heap.size + 1 + 1) (0 + 40) by
    rw [hw3]
    (repeat (first | exact hR2 | refine Rd.alloc ?_ _)))
  have hB3 : Below w.heap.size w w3 := by
    rw [hw3]
    (repeat (first | exact Below.refl _ _ | refine Below.setCell ?_ (by first | omega | (simp <;> omega)) _ | refine Below.alloc ?_ (by first | omega | (simp <;> omega)) _ | refine Below.drew ?_ | refine Below.trans ?_ (Below.mono (by assumption) (by first | omega | (simp <;> omega))) | refine Below.grown ?_ (by assumption) (by first | omega | (simp <;> omega)) (fun k e => by cases e; first | omega | (simp <;> omega))))
  clear hw3 hI2 hR2 hh2 hh1 hR1
  rename_i K hK
  have hRB : w.heap.size + 1 + 1 < w1.heap.size := by omega
  have hTA : w2.heap.size ≠ w.heap.size := by omega
  have hTD : w2.heap.size ≠ w.heap.size + 1 := by omega
  have hTR : w2.heap.size ≠ w.heap.size + 1 + 1 := by omega
  refine wp_region_stores (PP := doP p q a2 c2 L (w.heap.size + 1 + 1)) (Grow := fun _ _ => True) (G := fun l W => BackG w 2 3 w1.heap.size w2.heap.size (w.heap.size + 1 + 1) w2.heap.size w.heap.size 40 6 p q a2 c2 L l W ∧ ∃ x y z : Int, C3 W (w.heap.size + 1) (.int .i64 x) (.int .i64 y) (.int .i64 z)) (by kernel_rfl) (dis_of2 (by kernel_rfl)) (b_of (by kernel_rfl)) (back_of (by kernel_rfl)) (fun _ _ _ _ _ hp => hp) ⟨⟨Below.drew hB3, rd_drewD (hR3.mono (by omega)), hI3.drew, kc2, 0, 0, none, 0, 0, kc0, fun e => by simp [Array.getD_eq_getD_getElem?, Array.getElem?_replicate] at e⟩, 0, 0, 0, kc1⟩ ?step ?fin
  case step =>
    intro i o hi listed a w4 hS hG hall hl
    have hi5 : i < 5 := (Array.getElem?_eq_some_iff.1 hi).1
    rcases (show i = 0 ∨ i = 1 ∨ i = 2 ∨ i = 3 ∨ i = 4 by omega) with rfl | rfl | rfl | rfl | rfl
    · obtain rfl := Option.some.inj hi
      have e5 : a.eval (.tmp 5) = .pointer (some ⟨w2.heap.size, 0, none⟩) := hS.2.2.1 5 (noDst_of (by kernel_rfl))
      obtain ⟨⟨c0, c1, c2'⟩, _⟩ := hG.1.2.2.2.1
      refine op_value (v := .agg #[.int .i64 p, .int .i64 q, .slice a2 L.length c2]) (w' := w4) rfl rfl (by intro ev ht hc hf; rw [← ht] at e5; simp [execOp, hc, hf, e5, go_sem, c0, c1, c2']; try go_simp) ⟨.inl ⟨_, 10, rfl, rfl, rfl⟩, trivial, hG.1.same (by decide) (by decide), hG.2⟩
    · obtain rfl := Option.some.inj hi
      have e4 : a.eval (.tmp 4) = .pointer (some ⟨(w.heap.size + 1 + 1), 0, none⟩) := hS.2.2.1 4 (noDst_of (by kernel_rfl))
      refine op_value (v := .pointer (some ⟨(w.heap.size + 1 + 1), 0, none⟩)) (w' := w4) rfl rfl (by intro ev ht hc hf; rw [← ht] at e4; simp [execOp, hc, hf, e4, go_sem]) ⟨.inl ⟨_, 11, rfl, rfl, rfl⟩, trivial, hG.1.same (by decide) (by decide), hG.2⟩
    · obtain rfl := Option.some.inj hi
      have P1 := hS.2.2.2 1 _ 11 rfl rfl (hall { on := 1, ground := .data } (by simp) rfl)
      replace P1 : a.eval (.tmp 11) = .pointer (some ⟨(w.heap.size + 1 + 1), 0, none⟩) := P1
      refine op_enter rfl rfl (f := 44) (args := #[.pointer (some ⟨(w.heap.size + 1 + 1), 0, none⟩)]) (w' := w4) (by intro ev ht hc hf; rw [← ht] at P1; simp [execOp, hc, hf, P1, go_sem, hen]) ?_
      refine (l20Deed_any (w.heap.size + 1 + 1) (40 + 6 * indD listed 2) w4 hG.1.2.1 (by have := indD_le listed 2; omega)).mono ?_
      rintro e w5 ⟨x, y, z, rfl, hR, hg⟩
      obtain ⟨x', y', z', hx⟩ := hG.2
      exact ⟨_, rfl, .inl ⟨_, 12, rfl, rfl, x, y, z, rfl⟩, trivial, hG.1.call hl (by decide) hR hg hRB (by omega) hTR (by omega), x', y', z', hx.grow hg (by omega)⟩
    · obtain rfl := Option.some.inj hi
      have P0 := hS.2.2.2 0 _ 10 rfl rfl (hall { on := 0, ground := .data } (by simp) rfl)
      replace P0 : a.eval (.tmp 10) = .agg #[.int .i64 p, .int .i64 q, .slice a2 L.length c2] := P0
      have e2 : a.eval (.tmp 2) = .pointer (some ⟨w.heap.size, 0, none⟩) := hS.2.2.1 2 (noDst_of (by kernel_rfl))
      obtain ⟨_, _, _, _, x, y, a6, n6, c6, hA, _⟩ := id hG.1
      obtain ⟨⟨c0, c1, c2'⟩, f0, f1, f2⟩ := id hA
      obtain ⟨x', y', z', hx⟩ := hG.2
      refine op_store (w' := set3 w4 w.heap.size (.int .i64 p) (.int .i64 q) (.slice a2 L.length c2)) rfl rfl rfl (by intro ev ht hc hf; rw [← ht] at P0 e2; unfold set3; simp [execOp, hc, hf, P0, e2, go_sem, c0, c1, c2', f0, f1, f2]; try go_simp) ⟨.inr ⟨rfl, rfl⟩, trivial, hG.1.desk (by decide) (by omega) (Nat.le_refl _) hTA (by omega), x', y', z', hx.other (by omega) _ _ _⟩
    · obtain rfl := Option.some.inj hi
      have P2 := hS.2.2.2 2 _ 12 rfl rfl (hall { on := 2, ground := .data } (by simp) rfl)
      obtain ⟨x2, y2, z2, P2⟩ := P2
      have e3 : a.eval (.tmp 3) = .pointer (some ⟨w.heap.size + 1, 0, none⟩) := hS.2.2.1 3 (noDst_of (by kernel_rfl))
      obtain ⟨x', y', z', hx⟩ := hG.2
      obtain ⟨⟨c0, c1, c2'⟩, f0, f1, f2⟩ := id hx
      refine op_store (w' := set3 w4 (w.heap.size + 1) (.int .i64 x2) (.int .i64 y2) (.int .i64 z2)) rfl rfl rfl (by intro ev ht hc hf; rw [← ht] at P2 e3; unfold set3; simp [execOp, hc, hf, P2, e3, go_sem, c0, c1, c2', f0, f1, f2]; try go_simp) ⟨.inr ⟨rfl, rfl⟩, trivial, (hG.1.elsewhere hx (fun _ e => by cases e) (fun _ e => by cases e) (fun _ e => by cases e) (by omega) (by omega) hTD (by omega) (by omega) _ _ _).same (by decide) (by decide), x2, y2, z2, hx.set _ _ _⟩
  case fin =>
    intro listed a w4 hall hS hG
    have e2 : a.eval (.tmp 2) = .pointer (some ⟨w.heap.size, 0, none⟩) := hS.2.2.1 2 (noDst_of (by kernel_rfl))
    have e3 : a.eval (.tmp 3) = .pointer (some ⟨w.heap.size + 1, 0, none⟩) := hS.2.2.1 3 (noDst_of (by kernel_rfl))
    have hd : a.defers = [] := hS.1
    have hsz : a.tmps.size = 13 := hS.2.1
    obtain ⟨⟨hB, _, hI, _, x, y, a6, n6, c6, hA, hl3⟩, x', y', z', hx⟩ := hG
    obtain ⟨rfl, rfl, hsl⟩ := hl3 (hall 3 (by decide))
    rw [hsl] at hA
    have hC : w2.heap.size ≤ w4.heap.size := by obtain ⟨_, _, _, hC, _⟩ := id hI; exact hC
    obtain ⟨t, d⟩ := a
    clear hS hall hsl hl3
    dsimp only at hd hsz
    subst hd
    obtain ⟨u0, u1, u4, u5, u6, u7, u8, u9, u10, u11, u12, rfl⟩ := act13 t hsz _ _ e2 e3
    clear e2 e3 hsz hen
    refine hK _ _ ?_
    clear hK K
    obtain ⟨⟨c0, c1, c2'⟩, f0, f1, f2⟩ := hA
    obtain ⟨⟨d0, d1, d2'⟩, g0, g1, g2⟩ := hx
    go_wp2_with fail
    refine bodyPost_ret (v := .tuple #[.agg #[.int .i64 x, .int .i64 y, .slice a2 L.length c2], .agg #[.int .i64 x', .int .i64 y', .int .i64 z']]) (by simp [results, Try.results21, go_sem]; go_simp) rfl ⟨x, y, a2, c2, L, x', y', z', rfl, hI.mono (by omega) hC (Nat.le_refl _), hL2, hB⟩
end Go.Proofs.Ytigcomhhgfgmgaa
namespace Go.Proofs.Ytigcomhhgfgmgaa
open Go.RowKit
theorem implOk_is (B C : Nat) (p q : Int) (L : List (Int × Int)) (v : Value) (w : World) (h : IsPairs B C w v L) (hn : L.length ≤ 1048600) (b : Bool) (hb : deskN ⟨(p, q), L⟩ = b) : Calls Try.prog 12 #[.agg #[.int .i64 p, .int .i64 q, v]] w fun e w' => e = .returned (.bool b) ∧ Below w.heap.size w w' := by rw [← hb]; exact implDeskOk_any B C p q L v w h hn
theorem specOk_is (B C : Nat) (p q : Int) (L : List (Int × Int)) (v : Value) (w : World) (h : IsPairs B C w v L) (hn : L.length ≤ 1048600) (b : Bool) (hb : deskN ⟨(p, q), L⟩ = b) : Calls Try.prog 13 #[.agg #[.int .i64 p, .int .i64 q, v]] w fun e w' => e = .returned (.bool b) ∧ Below w.heap.size w w' := by rw [← hb]; exact specDeskOk_any B C p q L v w h hn
theorem calls_namedD {P : Program} {f : FuncId} {args : Array Value} {w : World} {Q : Ending → World → Prop} (h : ∀ W, W = w → Calls P f args W Q) : Calls P f args w Q := h w rfl
theorem sameDesk_yes (B C B' C' : Nat) (p q : Int) (v u : Value) (L : List (Int × Int)) (w : World) (h : IsPairs B C w v L) (k : IsPairs B' C' w u L) (hn : L.length ≤ 1048600) :
    Calls Try.prog 18 #[.agg #[.int .i64 p, .int .i64 q, v], .agg #[.int .i64 p, .int .i64 q, u]] w fun e w' => e = .returned (.bool true) ∧ Below w.heap.size w w' := by
  have := sameDesk_any B C B' C' p q p q v u L L w h k hn hn
  rwa [deskEq_yes rfl] at this
theorem sameDesk_is (B C B' C' : Nat) (p q p' q' : Int) (v u : Value) (L M : List (Int × Int)) (w : World) (h : IsPairs B C w v L) (k : IsPairs B' C' w u M) (hn : L.length ≤ 1048600) (hm : M.length ≤ 1048600) (b : Bool) (hb : deskEq ⟨(p, q), L⟩ ⟨(p', q'), M⟩ = b) :
    Calls Try.prog 18 #[.agg #[.int .i64 p, .int .i64 q, v], .agg #[.int .i64 p', .int .i64 q', u]] w fun e w' => e = .returned (.bool b) ∧ Below w.heap.size w w' := by
  rw [← hb]; exact sameDesk_any B C B' C' p q p' q' v u L M w h k hn hm
theorem implFive_no (w : World) : Calls Try.prog 12 #[.agg #[.int .i64 5, .int .i64 0, .slice none 0 0]] w fun e w' => e = .returned (.bool false) ∧ Below w.heap.size w w' := by
  have := implDeskOk_any w.heap.size w.heap.size 5 0 [] (.slice none 0 0) w (IsPairs.empty _ _ _ _) (by simp)
  rwa [show deskN ⟨(5, 0), []⟩ = false by decide] at this
end Go.Proofs.Ytigcomhhgfgmgaa
namespace Go.Proofs.Ytigcomhhgfgmgaa
open Go.RowKit
set_option maxRecDepth 100000 in
set_option maxHeartbeats 4000000 in
theorem fnDeskOk_walk (a : Option Addr) (len cap : Nat) (z : List Int) (w : World) (w0 : IsRow w a len cap z) :
    Calls Try.prog 3 #[.slice a len cap] w fun e w' => e = .returned (.bool true) ∧ Below w.heap.size w w' := by
  by_cases hbig : 1048576 < len
  · go_enter Try.func3, Try.ntmps3
    go_wp2
    go_ret
    exact ⟨rfl, Below.refl _ _⟩
  · have hsm : len ≤ 1048576 := by omega
    go_enter Try.func3, Try.ntmps3
    go_wp2_with fail
    refine (drawDeskOk_any _ _ _ _ z w0).mono ?_
    rintro e w1 ⟨p, q, a2, c2, L, rfl, hI, hL, hh1⟩
    have hz1 := hh1.size
    obtain ⟨hc1, hf1⟩ := bcell hh1
    obtain ⟨ok, hok⟩ : ∃ b, deskN ⟨(p, q), L⟩ = b := ⟨_, rfl⟩
    have HD := Lib.hid hok
    cases ok with
    | true =>
      have hp : pairB p q = true := (deskN_of hok).1
      clear hok
      have HB1 := Lib.hid hh1
      clear hc1 hf1 hh1
      have HR1_d := Lib.hid (hI)
      clear hI
      go_wp2_with fail
      refine calls_namedD ?_
      intro w2 hw2
      have hN2 : Below w1.heap.size w1 w2 := by
        rw [hw2]
        (repeat (first | exact Below.refl _ _ | refine Below.setCell ?_ (by first | omega | (simp <;> omega)) _ | refine Below.alloc ?_ (by first | omega | (simp <;> omega)) _ | refine Below.drew ?_))
      have hz2 : w2.heap.size = _ := congrArg (fun W : World => W.heap.size) hw2
      try simp at hz2
      have hn2 := hN2.size
      have hs2_0 : w1.heap.size < w2.heap.size := by omega
      have kb2_0_0 : w2.cell? ⟨w1.heap.size, 0, none⟩ = some (.int .i64 p) := by rw [hw2]; go_simp
      have kb2_0_1 : w2.cell? ⟨w1.heap.size, 1, none⟩ = some (.int .i64 q) := by rw [hw2]; go_simp
      have kb2_0_2 : w2.cell? ⟨w1.heap.size, 2, none⟩ = some (.slice a2 L.length c2) := by rw [hw2]; go_simp
      have HB2 := Lib.hid (HB1.out.trans (hN2.mono (by first | exact Nat.le_refl _ | omega)))
      have HR2_d := Lib.hid (HR1_d.out.below hN2 (by first | exact Nat.le_refl _ | omega))
      clear hw2 hN2 hz2
      refine (implOk_is _ _ p q L _ _ HR2_d.out (by omega) _ HD.out).mono ?_
      rintro e w3 ⟨rfl, hb3⟩
      obtain ⟨hc3, hf3⟩ := bcell hb3
      have hz3 := hb3.size
      try simp at hz3
      have hN3 : Below w2.heap.size w2 w3 := by
        refine Below.trans ?_ (hb3.mono (by first | omega | (simp <;> omega)))
        (repeat (first | exact Below.refl _ _ | refine Below.setCell ?_ (by first | omega | (simp <;> omega)) _ | refine Below.alloc ?_ (by first | omega | (simp <;> omega)) _ | refine Below.drew ?_))
      have hn3 := hN3.size
      have hs3_0 : w1.heap.size < w3.heap.size := by omega
      have kb3_0_0 : w3.cell? ⟨w1.heap.size, 0, none⟩ = some (.int .i64 p) := by go_simp
      have kb3_0_1 : w3.cell? ⟨w1.heap.size, 1, none⟩ = some (.int .i64 q) := by go_simp
      have kb3_0_2 : w3.cell? ⟨w1.heap.size, 2, none⟩ = some (.slice a2 L.length c2) := by go_simp
      have HB3 := Lib.hid (HB2.out.trans (hN3.mono (by first | exact Nat.le_refl _ | omega)))
      have HR3_d := Lib.hid (HR2_d.out.below hN3 (by first | exact Nat.le_refl _ | omega))
      clear hc3 hf3 hb3 hN3 hz3
      go_wp2_with fail
      refine (specOk_is _ _ p q L _ _ HR3_d.out (by omega) _ HD.out).mono ?_
      rintro e w4 ⟨rfl, hb4⟩
      obtain ⟨hc4, hf4⟩ := bcell hb4
      have hz4 := hb4.size
      try simp at hz4
      have hN4 : Below w3.heap.size w3 w4 := by
        refine Below.trans ?_ (hb4.mono (by first | omega | (simp <;> omega)))
        (repeat (first | exact Below.refl _ _ | refine Below.setCell ?_ (by first | omega | (simp <;> omega)) _ | refine Below.alloc ?_ (by first | omega | (simp <;> omega)) _ | refine Below.drew ?_))
      have hn4 := hN4.size
      have hs4_0 : w1.heap.size < w4.heap.size := by omega
      have kb4_0_0 : w4.cell? ⟨w1.heap.size, 0, none⟩ = some (.int .i64 p) := by go_simp
      have kb4_0_1 : w4.cell? ⟨w1.heap.size, 1, none⟩ = some (.int .i64 q) := by go_simp
      have kb4_0_2 : w4.cell? ⟨w1.heap.size, 2, none⟩ = some (.slice a2 L.length c2) := by go_simp
      have HB4 := Lib.hid (HB3.out.trans (hN4.mono (by first | exact Nat.le_refl _ | omega)))
      have HR4_d := Lib.hid (HR3_d.out.below hN4 (by first | exact Nat.le_refl _ | omega))
      clear hc4 hf4 hb4 hN4 hz4
      go_wp2_with fail
      refine (deskOk_none p q _ hp).mono ?_
      rintro e w5 ⟨rfl, hb5⟩
      obtain ⟨hc5, hf5⟩ := bcell hb5
      have hz5 := hb5.size
      try simp at hz5
      have hN5 : Below w4.heap.size w4 w5 := by
        refine Below.trans ?_ (hb5.mono (by first | omega | (simp <;> omega)))
        (repeat (first | exact Below.refl _ _ | refine Below.setCell ?_ (by first | omega | (simp <;> omega)) _ | refine Below.alloc ?_ (by first | omega | (simp <;> omega)) _ | refine Below.drew ?_))
      have hn5 := hN5.size
      have hs5_0 : w1.heap.size < w5.heap.size := by omega
      have kb5_0_0 : w5.cell? ⟨w1.heap.size, 0, none⟩ = some (.int .i64 p) := by go_simp
      have kb5_0_1 : w5.cell? ⟨w1.heap.size, 1, none⟩ = some (.int .i64 q) := by go_simp
      have kb5_0_2 : w5.cell? ⟨w1.heap.size, 2, none⟩ = some (.slice a2 L.length c2) := by go_simp
      have HB5 := Lib.hid (HB4.out.trans (hN5.mono (by first | exact Nat.le_refl _ | omega)))
      have HR5_d := Lib.hid (HR4_d.out.below hN5 (by first | exact Nat.le_refl _ | omega))
      clear hc5 hf5 hb5 hN5 hz5
      go_wp2_with fail
      refine (implFive_no _).mono ?_
      rintro e w6 ⟨rfl, hb6⟩
      obtain ⟨hc6, hf6⟩ := bcell hb6
      have hz6 := hb6.size
      try simp at hz6
      have hN6 : Below w5.heap.size w5 w6 := by
        refine Below.trans ?_ (hb6.mono (by first | omega | (simp <;> omega)))
        (repeat (first | exact Below.refl _ _ | refine Below.setCell ?_ (by first | omega | (simp <;> omega)) _ | refine Below.alloc ?_ (by first | omega | (simp <;> omega)) _ | refine Below.drew ?_))
      have hn6 := hN6.size
      have hs6_0 : w1.heap.size < w6.heap.size := by omega
      have kb6_0_0 : w6.cell? ⟨w1.heap.size, 0, none⟩ = some (.int .i64 p) := by go_simp
      have kb6_0_1 : w6.cell? ⟨w1.heap.size, 1, none⟩ = some (.int .i64 q) := by go_simp
      have kb6_0_2 : w6.cell? ⟨w1.heap.size, 2, none⟩ = some (.slice a2 L.length c2) := by go_simp
      have HB6 := Lib.hid (HB5.out.trans (hN6.mono (by first | exact Nat.le_refl _ | omega)))
      have HR6_d := Lib.hid (HR5_d.out.below hN6 (by first | exact Nat.le_refl _ | omega))
      clear hc6 hf6 hb6 hN6 hz6
      go_wp2_with fail
      refine (alive_any _).mono ?_
      rintro e w7 ⟨rfl, hb7⟩
      obtain ⟨hc7, hf7⟩ := bcell hb7
      have hz7 := hb7.size
      try simp at hz7
      have hN7 : Below w6.heap.size w6 w7 := by
        refine Below.trans ?_ (hb7.mono (by first | omega | (simp <;> omega)))
        (repeat (first | exact Below.refl _ _ | refine Below.setCell ?_ (by first | omega | (simp <;> omega)) _ | refine Below.alloc ?_ (by first | omega | (simp <;> omega)) _ | refine Below.drew ?_))
      have hn7 := hN7.size
      have hs7_0 : w1.heap.size < w7.heap.size := by omega
      have kb7_0_0 : w7.cell? ⟨w1.heap.size, 0, none⟩ = some (.int .i64 p) := by go_simp
      have kb7_0_1 : w7.cell? ⟨w1.heap.size, 1, none⟩ = some (.int .i64 q) := by go_simp
      have kb7_0_2 : w7.cell? ⟨w1.heap.size, 2, none⟩ = some (.slice a2 L.length c2) := by go_simp
      have HB7 := Lib.hid (HB6.out.trans (hN7.mono (by first | exact Nat.le_refl _ | omega)))
      have HR7_d := Lib.hid (HR6_d.out.below hN7 (by first | exact Nat.le_refl _ | omega))
      clear hc7 hf7 hb7 hN7 hz7
      go_wp2
      go_ret
      exact ⟨rfl, HB7.out⟩
    | false =>
      clear hok
      have HB1 := Lib.hid hh1
      clear hc1 hf1 hh1
      have HR1_d := Lib.hid (hI)
      clear hI
      go_wp2_with fail
      refine calls_namedD ?_
      intro w2 hw2
      have hN2 : Below w1.heap.size w1 w2 := by
        rw [hw2]
        (repeat (first | exact Below.refl _ _ | refine Below.setCell ?_ (by first | omega | (simp <;> omega)) _ | refine Below.alloc ?_ (by first | omega | (simp <;> omega)) _ | refine Below.drew ?_))
      have hz2 : w2.heap.size = _ := congrArg (fun W : World => W.heap.size) hw2
      try simp at hz2
      have hn2 := hN2.size
      have hs2_0 : w1.heap.size < w2.heap.size := by omega
      have kb2_0_0 : w2.cell? ⟨w1.heap.size, 0, none⟩ = some (.int .i64 p) := by rw [hw2]; go_simp
      have kb2_0_1 : w2.cell? ⟨w1.heap.size, 1, none⟩ = some (.int .i64 q) := by rw [hw2]; go_simp
      have kb2_0_2 : w2.cell? ⟨w1.heap.size, 2, none⟩ = some (.slice a2 L.length c2) := by rw [hw2]; go_simp
      have HB2 := Lib.hid (HB1.out.trans (hN2.mono (by first | exact Nat.le_refl _ | omega)))
      have HR2_d := Lib.hid (HR1_d.out.below hN2 (by first | exact Nat.le_refl _ | omega))
      clear hw2 hN2 hz2
      refine (implOk_is _ _ p q L _ _ HR2_d.out (by omega) _ HD.out).mono ?_
      rintro e w3 ⟨rfl, hb3⟩
      obtain ⟨hc3, hf3⟩ := bcell hb3
      have hz3 := hb3.size
      try simp at hz3
      have hN3 : Below w2.heap.size w2 w3 := by
        refine Below.trans ?_ (hb3.mono (by first | omega | (simp <;> omega)))
        (repeat (first | exact Below.refl _ _ | refine Below.setCell ?_ (by first | omega | (simp <;> omega)) _ | refine Below.alloc ?_ (by first | omega | (simp <;> omega)) _ | refine Below.drew ?_))
      have hn3 := hN3.size
      have hs3_0 : w1.heap.size < w3.heap.size := by omega
      have kb3_0_0 : w3.cell? ⟨w1.heap.size, 0, none⟩ = some (.int .i64 p) := by go_simp
      have kb3_0_1 : w3.cell? ⟨w1.heap.size, 1, none⟩ = some (.int .i64 q) := by go_simp
      have kb3_0_2 : w3.cell? ⟨w1.heap.size, 2, none⟩ = some (.slice a2 L.length c2) := by go_simp
      have HB3 := Lib.hid (HB2.out.trans (hN3.mono (by first | exact Nat.le_refl _ | omega)))
      have HR3_d := Lib.hid (HR2_d.out.below hN3 (by first | exact Nat.le_refl _ | omega))
      clear hc3 hf3 hb3 hN3 hz3
      go_wp2_with fail
      refine (specOk_is _ _ p q L _ _ HR3_d.out (by omega) _ HD.out).mono ?_
      rintro e w4 ⟨rfl, hb4⟩
      obtain ⟨hc4, hf4⟩ := bcell hb4
      have hz4 := hb4.size
      try simp at hz4
      have hN4 : Below w3.heap.size w3 w4 := by
        refine Below.trans ?_ (hb4.mono (by first | omega | (simp <;> omega)))
        (repeat (first | exact Below.refl _ _ | refine Below.setCell ?_ (by first | omega | (simp <;> omega)) _ | refine Below.alloc ?_ (by first | omega | (simp <;> omega)) _ | refine Below.drew ?_))
      have hn4 := hN4.size
      have hs4_0 : w1.heap.size < w4.heap.size := by omega
      have kb4_0_0 : w4.cell? ⟨w1.heap.size, 0, none⟩ = some (.int .i64 p) := by go_simp
      have kb4_0_1 : w4.cell? ⟨w1.heap.size, 1, none⟩ = some (.int .i64 q) := by go_simp
      have kb4_0_2 : w4.cell? ⟨w1.heap.size, 2, none⟩ = some (.slice a2 L.length c2) := by go_simp
      have HB4 := Lib.hid (HB3.out.trans (hN4.mono (by first | exact Nat.le_refl _ | omega)))
      have HR4_d := Lib.hid (HR3_d.out.below hN4 (by first | exact Nat.le_refl _ | omega))
      clear hc4 hf4 hb4 hN4 hz4
      go_wp2_with fail
      refine (implFive_no _).mono ?_
      rintro e w5 ⟨rfl, hb5⟩
      obtain ⟨hc5, hf5⟩ := bcell hb5
      have hz5 := hb5.size
      try simp at hz5
      have hN5 : Below w4.heap.size w4 w5 := by
        refine Below.trans ?_ (hb5.mono (by first | omega | (simp <;> omega)))
        (repeat (first | exact Below.refl _ _ | refine Below.setCell ?_ (by first | omega | (simp <;> omega)) _ | refine Below.alloc ?_ (by first | omega | (simp <;> omega)) _ | refine Below.drew ?_))
      have hn5 := hN5.size
      have hs5_0 : w1.heap.size < w5.heap.size := by omega
      have kb5_0_0 : w5.cell? ⟨w1.heap.size, 0, none⟩ = some (.int .i64 p) := by go_simp
      have kb5_0_1 : w5.cell? ⟨w1.heap.size, 1, none⟩ = some (.int .i64 q) := by go_simp
      have kb5_0_2 : w5.cell? ⟨w1.heap.size, 2, none⟩ = some (.slice a2 L.length c2) := by go_simp
      have HB5 := Lib.hid (HB4.out.trans (hN5.mono (by first | exact Nat.le_refl _ | omega)))
      have HR5_d := Lib.hid (HR4_d.out.below hN5 (by first | exact Nat.le_refl _ | omega))
      clear hc5 hf5 hb5 hN5 hz5
      go_wp2_with fail
      refine (alive_any _).mono ?_
      rintro e w6 ⟨rfl, hb6⟩
      obtain ⟨hc6, hf6⟩ := bcell hb6
      have hz6 := hb6.size
      try simp at hz6
      have hN6 : Below w5.heap.size w5 w6 := by
        refine Below.trans ?_ (hb6.mono (by first | omega | (simp <;> omega)))
        (repeat (first | exact Below.refl _ _ | refine Below.setCell ?_ (by first | omega | (simp <;> omega)) _ | refine Below.alloc ?_ (by first | omega | (simp <;> omega)) _ | refine Below.drew ?_))
      have hn6 := hN6.size
      have hs6_0 : w1.heap.size < w6.heap.size := by omega
      have kb6_0_0 : w6.cell? ⟨w1.heap.size, 0, none⟩ = some (.int .i64 p) := by go_simp
      have kb6_0_1 : w6.cell? ⟨w1.heap.size, 1, none⟩ = some (.int .i64 q) := by go_simp
      have kb6_0_2 : w6.cell? ⟨w1.heap.size, 2, none⟩ = some (.slice a2 L.length c2) := by go_simp
      have HB6 := Lib.hid (HB5.out.trans (hN6.mono (by first | exact Nat.le_refl _ | omega)))
      have HR6_d := Lib.hid (HR5_d.out.below hN6 (by first | exact Nat.le_refl _ | omega))
      clear hc6 hf6 hb6 hN6 hz6
      go_wp2
      go_ret
      exact ⟨rfl, HB6.out⟩
end Go.Proofs.Ytigcomhhgfgmgaa
namespace Go.Proofs.Ytigcomhhgfgmgaa
open Go.RowKit
set_option maxRecDepth 100000 in
set_option maxHeartbeats 2000000 in
theorem fnDeskDo_walk (a : Option Addr) (len cap : Nat) (z : List Int) (w : World) (w0 : IsRow w a len cap z) :
    Calls Try.prog 5 #[.slice a len cap] w fun e w' => e = .returned (.bool true) ∧ Below w.heap.size w w' := by
  by_cases hbig : 1048576 < len
  · go_enter Try.func5, Try.ntmps5
    go_wp2
    go_ret
    exact ⟨rfl, Below.refl _ _⟩
  · have hsm : len ≤ 1048576 := by omega
    go_enter Try.func5, Try.ntmps5
    go_wp2_with fail
    refine (drawDeskDo_any _ _ _ _ z w0).mono ?_
    rintro e w1 ⟨p, q, a2, c2, L, k, x, y, rfl, hI, hL, hh1⟩
    have hz1 := hh1.size
    obtain ⟨hc1, hf1⟩ := bcell hh1
    have hn : L.length ≤ 1048600 := by omega
    have hS := fun (W : World) (B C : Nat) (a : Option Addr) (c : Nat) (hI : IsPairs B C W (.slice a L.length c) L) => specDo_any B C p q k x y L _ W hI hn
    have hJ := fun (W : World) (B C : Nat) (a : Option Addr) (c : Nat) (hI : IsPairs B C W (.slice a L.length c) L) => implDo_any B C p q k x y L _ W hI hn
    unfold DidS at hS
    unfold DeskRet at hJ
    obtain ⟨rp, rq, R, ok, hres⟩ : ∃ rp rq R ok, doR ⟨(p, q), L⟩ ⟨k, x, y⟩ = (⟨(rp, rq), R⟩, ok) := ⟨_, _, _, _, rfl⟩
    have hR8 : R.length ≤ 8 := by have := doR_len ⟨(p, q), L⟩ ⟨k, x, y⟩; rwa [hres] at this
    rw [hres] at hS hJ
    dsimp only at hS hJ
    have hRn : R.length ≤ 1048600 := by omega
    have HS := Lib.hid hS
    have HI := Lib.hid hJ
    have HRES := Lib.hid hres
    clear hS hJ hres
    have HB1 := Lib.hid hh1
    clear hc1 hf1 hh1
    have HR1_d := Lib.hid (hI)
    clear hI
    go_wp2_with fail
    refine calls_namedD ?_
    intro w2 hw2
    have hN2 : Below w1.heap.size w1 w2 := by
      rw [hw2]
      (repeat (first | exact Below.refl _ _ | refine Below.setCell ?_ (by first | omega | (simp <;> omega)) _ | refine Below.alloc ?_ (by first | omega | (simp <;> omega)) _ | refine Below.drew ?_))
    have hz2 : w2.heap.size = _ := congrArg (fun W : World => W.heap.size) hw2
    try simp at hz2
    have hn2 := hN2.size
    have hs2_0 : w1.heap.size < w2.heap.size := by omega
    have hs2_1 : w1.heap.size + 1 < w2.heap.size := by omega
    have kb2_0_0 : w2.cell? ⟨w1.heap.size, 0, none⟩ = some (.int .i64 p) := by rw [hw2]; go_simp
    have kb2_0_1 : w2.cell? ⟨w1.heap.size, 1, none⟩ = some (.int .i64 q) := by rw [hw2]; go_simp
    have kb2_0_2 : w2.cell? ⟨w1.heap.size, 2, none⟩ = some (.slice a2 L.length c2) := by rw [hw2]; go_simp
    have kb2_1_0 : w2.cell? ⟨w1.heap.size + 1, 0, none⟩ = some (.int .i64 k) := by rw [hw2]; go_simp
    have kb2_1_1 : w2.cell? ⟨w1.heap.size + 1, 1, none⟩ = some (.int .i64 x) := by rw [hw2]; go_simp
    have kb2_1_2 : w2.cell? ⟨w1.heap.size + 1, 2, none⟩ = some (.int .i64 y) := by rw [hw2]; go_simp
    have HB2 := Lib.hid (HB1.out.trans (hN2.mono (by first | exact Nat.le_refl _ | omega)))
    have HR2_d := Lib.hid (HR1_d.out.below hN2 (by first | exact Nat.le_refl _ | omega))
    clear hw2 hN2 hz2
    refine (HI.out _ _ _ _ _ HR2_d.out).mono ?_
    rintro e w3 ⟨a3, c3, rfl, hI3, hb3⟩
    obtain ⟨hc3, hf3⟩ := bcell hb3
    have hz3 := hb3.size
    try simp at hz3
    have hN3 : Below w2.heap.size w2 w3 := by
      refine Below.trans ?_ (hb3.mono (by first | omega | (simp <;> omega)))
      (repeat (first | exact Below.refl _ _ | refine Below.setCell ?_ (by first | omega | (simp <;> omega)) _ | refine Below.alloc ?_ (by first | omega | (simp <;> omega)) _ | refine Below.drew ?_))
    have hn3 := hN3.size
    have hs3_0 : w1.heap.size < w3.heap.size := by omega
    have hs3_1 : w1.heap.size + 1 < w3.heap.size := by omega
    have kb3_0_0 : w3.cell? ⟨w1.heap.size, 0, none⟩ = some (.int .i64 p) := by go_simp
    have kb3_0_1 : w3.cell? ⟨w1.heap.size, 1, none⟩ = some (.int .i64 q) := by go_simp
    have kb3_0_2 : w3.cell? ⟨w1.heap.size, 2, none⟩ = some (.slice a2 L.length c2) := by go_simp
    have kb3_1_0 : w3.cell? ⟨w1.heap.size + 1, 0, none⟩ = some (.int .i64 k) := by go_simp
    have kb3_1_1 : w3.cell? ⟨w1.heap.size + 1, 1, none⟩ = some (.int .i64 x) := by go_simp
    have kb3_1_2 : w3.cell? ⟨w1.heap.size + 1, 2, none⟩ = some (.int .i64 y) := by go_simp
    have HB3 := Lib.hid (HB2.out.trans (hN3.mono (by first | exact Nat.le_refl _ | omega)))
    have HR3_d := Lib.hid (HR2_d.out.below hN3 (by first | exact Nat.le_refl _ | omega))
    clear hc3 hf3 hb3 hN3 hz3
    have HR3_x := Lib.hid (hI3)
    clear hI3
    go_wp2_with fail
    refine calls_namedD ?_
    intro w4 hw4
    have hN4 : Below w3.heap.size w3 w4 := by
      rw [hw4]
      (repeat (first | exact Below.refl _ _ | refine Below.setCell ?_ (by first | omega | (simp <;> omega)) _ | refine Below.alloc ?_ (by first | omega | (simp <;> omega)) _ | refine Below.drew ?_))
    have hz4 : w4.heap.size = _ := congrArg (fun W : World => W.heap.size) hw4
    try simp at hz4
    have hn4 := hN4.size
    have hs4_0 : w1.heap.size < w4.heap.size := by omega
    have hs4_1 : w1.heap.size + 1 < w4.heap.size := by omega
    have hs4_2 : w3.heap.size < w4.heap.size := by omega
    have kb4_0_0 : w4.cell? ⟨w1.heap.size, 0, none⟩ = some (.int .i64 p) := by rw [hw4]; go_simp
    have kb4_0_1 : w4.cell? ⟨w1.heap.size, 1, none⟩ = some (.int .i64 q) := by rw [hw4]; go_simp
    have kb4_0_2 : w4.cell? ⟨w1.heap.size, 2, none⟩ = some (.slice a2 L.length c2) := by rw [hw4]; go_simp
    have kb4_1_0 : w4.cell? ⟨w1.heap.size + 1, 0, none⟩ = some (.int .i64 k) := by rw [hw4]; go_simp
    have kb4_1_1 : w4.cell? ⟨w1.heap.size + 1, 1, none⟩ = some (.int .i64 x) := by rw [hw4]; go_simp
    have kb4_1_2 : w4.cell? ⟨w1.heap.size + 1, 2, none⟩ = some (.int .i64 y) := by rw [hw4]; go_simp
    have kb4_2_0 : w4.cell? ⟨w3.heap.size, 0, none⟩ = some (.int .i64 rp) := by rw [hw4]; go_simp
    have kb4_2_1 : w4.cell? ⟨w3.heap.size, 1, none⟩ = some (.int .i64 rq) := by rw [hw4]; go_simp
    have kb4_2_2 : w4.cell? ⟨w3.heap.size, 2, none⟩ = some (.slice a3 R.length c3) := by rw [hw4]; go_simp
    have HB4 := Lib.hid (HB3.out.trans (hN4.mono (by first | exact Nat.le_refl _ | omega)))
    have HR4_d := Lib.hid (HR3_d.out.below hN4 (by first | exact Nat.le_refl _ | omega))
    have HR4_x := Lib.hid (HR3_x.out.below hN4 (by first | exact Nat.le_refl _ | omega))
    clear hw4 hN4 hz4
    refine (HS.out _ _ _ _ _ HR4_d.out).mono ?_
    rintro e w5 ⟨a4, c4, rfl, hI4, _, hb5⟩
    obtain ⟨hc5, hf5⟩ := bcell hb5
    have hz5 := hb5.size
    try simp at hz5
    have hN5 : Below w4.heap.size w4 w5 := by
      refine Below.trans ?_ (hb5.mono (by first | omega | (simp <;> omega)))
      (repeat (first | exact Below.refl _ _ | refine Below.setCell ?_ (by first | omega | (simp <;> omega)) _ | refine Below.alloc ?_ (by first | omega | (simp <;> omega)) _ | refine Below.drew ?_))
    have hn5 := hN5.size
    have hs5_0 : w1.heap.size < w5.heap.size := by omega
    have hs5_1 : w1.heap.size + 1 < w5.heap.size := by omega
    have hs5_2 : w3.heap.size < w5.heap.size := by omega
    have kb5_0_0 : w5.cell? ⟨w1.heap.size, 0, none⟩ = some (.int .i64 p) := by go_simp
    have kb5_0_1 : w5.cell? ⟨w1.heap.size, 1, none⟩ = some (.int .i64 q) := by go_simp
    have kb5_0_2 : w5.cell? ⟨w1.heap.size, 2, none⟩ = some (.slice a2 L.length c2) := by go_simp
    have kb5_1_0 : w5.cell? ⟨w1.heap.size + 1, 0, none⟩ = some (.int .i64 k) := by go_simp
    have kb5_1_1 : w5.cell? ⟨w1.heap.size + 1, 1, none⟩ = some (.int .i64 x) := by go_simp
    have kb5_1_2 : w5.cell? ⟨w1.heap.size + 1, 2, none⟩ = some (.int .i64 y) := by go_simp
    have kb5_2_0 : w5.cell? ⟨w3.heap.size, 0, none⟩ = some (.int .i64 rp) := by go_simp
    have kb5_2_1 : w5.cell? ⟨w3.heap.size, 1, none⟩ = some (.int .i64 rq) := by go_simp
    have kb5_2_2 : w5.cell? ⟨w3.heap.size, 2, none⟩ = some (.slice a3 R.length c3) := by go_simp
    have HB5 := Lib.hid (HB4.out.trans (hN5.mono (by first | exact Nat.le_refl _ | omega)))
    have HR5_d := Lib.hid (HR4_d.out.below hN5 (by first | exact Nat.le_refl _ | omega))
    have HR5_x := Lib.hid (HR4_x.out.below hN5 (by first | exact Nat.le_refl _ | omega))
    clear hc5 hf5 hb5 hN5 hz5
    have HR5_y := Lib.hid (hI4)
    clear hI4
    go_wp2_with fail
    refine calls_namedD ?_
    intro w6 hw6
    have hN6 : Below w5.heap.size w5 w6 := by
      rw [hw6]
      (repeat (first | exact Below.refl _ _ | refine Below.setCell ?_ (by first | omega | (simp <;> omega)) _ | refine Below.alloc ?_ (by first | omega | (simp <;> omega)) _ | refine Below.drew ?_))
    have hz6 : w6.heap.size = _ := congrArg (fun W : World => W.heap.size) hw6
    try simp at hz6
    have hn6 := hN6.size
    have hs6_0 : w1.heap.size < w6.heap.size := by omega
    have hs6_1 : w1.heap.size + 1 < w6.heap.size := by omega
    have hs6_2 : w3.heap.size < w6.heap.size := by omega
    have hs6_3 : w5.heap.size < w6.heap.size := by omega
    have kb6_0_0 : w6.cell? ⟨w1.heap.size, 0, none⟩ = some (.int .i64 p) := by rw [hw6]; go_simp
    have kb6_0_1 : w6.cell? ⟨w1.heap.size, 1, none⟩ = some (.int .i64 q) := by rw [hw6]; go_simp
    have kb6_0_2 : w6.cell? ⟨w1.heap.size, 2, none⟩ = some (.slice a2 L.length c2) := by rw [hw6]; go_simp
    have kb6_1_0 : w6.cell? ⟨w1.heap.size + 1, 0, none⟩ = some (.int .i64 k) := by rw [hw6]; go_simp
    have kb6_1_1 : w6.cell? ⟨w1.heap.size + 1, 1, none⟩ = some (.int .i64 x) := by rw [hw6]; go_simp
    have kb6_1_2 : w6.cell? ⟨w1.heap.size + 1, 2, none⟩ = some (.int .i64 y) := by rw [hw6]; go_simp
    have kb6_2_0 : w6.cell? ⟨w3.heap.size, 0, none⟩ = some (.int .i64 rp) := by rw [hw6]; go_simp
    have kb6_2_1 : w6.cell? ⟨w3.heap.size, 1, none⟩ = some (.int .i64 rq) := by rw [hw6]; go_simp
    have kb6_2_2 : w6.cell? ⟨w3.heap.size, 2, none⟩ = some (.slice a3 R.length c3) := by rw [hw6]; go_simp
    have kb6_3_0 : w6.cell? ⟨w5.heap.size, 0, none⟩ = some (.int .i64 rp) := by rw [hw6]; go_simp
    have kb6_3_1 : w6.cell? ⟨w5.heap.size, 1, none⟩ = some (.int .i64 rq) := by rw [hw6]; go_simp
    have kb6_3_2 : w6.cell? ⟨w5.heap.size, 2, none⟩ = some (.slice a4 R.length c4) := by rw [hw6]; go_simp
    have HB6 := Lib.hid (HB5.out.trans (hN6.mono (by first | exact Nat.le_refl _ | omega)))
    have HR6_d := Lib.hid (HR5_d.out.below hN6 (by first | exact Nat.le_refl _ | omega))
    have HR6_x := Lib.hid (HR5_x.out.below hN6 (by first | exact Nat.le_refl _ | omega))
    have HR6_y := Lib.hid (HR5_y.out.below hN6 (by first | exact Nat.le_refl _ | omega))
    clear hw6 hN6 hz6
    refine (sameDesk_yes _ _ _ _ rp rq _ _ R _ HR6_x.out HR6_y.out hRn).mono ?_
    rintro e w7 ⟨rfl, hb7⟩
    obtain ⟨hc7, hf7⟩ := bcell hb7
    have hz7 := hb7.size
    try simp at hz7
    have hN7 : Below w6.heap.size w6 w7 := by
      refine Below.trans ?_ (hb7.mono (by first | omega | (simp <;> omega)))
      (repeat (first | exact Below.refl _ _ | refine Below.setCell ?_ (by first | omega | (simp <;> omega)) _ | refine Below.alloc ?_ (by first | omega | (simp <;> omega)) _ | refine Below.drew ?_))
    have hn7 := hN7.size
    have hs7_0 : w1.heap.size < w7.heap.size := by omega
    have hs7_1 : w1.heap.size + 1 < w7.heap.size := by omega
    have hs7_2 : w3.heap.size < w7.heap.size := by omega
    have hs7_3 : w5.heap.size < w7.heap.size := by omega
    have kb7_0_0 : w7.cell? ⟨w1.heap.size, 0, none⟩ = some (.int .i64 p) := by go_simp
    have kb7_0_1 : w7.cell? ⟨w1.heap.size, 1, none⟩ = some (.int .i64 q) := by go_simp
    have kb7_0_2 : w7.cell? ⟨w1.heap.size, 2, none⟩ = some (.slice a2 L.length c2) := by go_simp
    have kb7_1_0 : w7.cell? ⟨w1.heap.size + 1, 0, none⟩ = some (.int .i64 k) := by go_simp
    have kb7_1_1 : w7.cell? ⟨w1.heap.size + 1, 1, none⟩ = some (.int .i64 x) := by go_simp
    have kb7_1_2 : w7.cell? ⟨w1.heap.size + 1, 2, none⟩ = some (.int .i64 y) := by go_simp
    have kb7_2_0 : w7.cell? ⟨w3.heap.size, 0, none⟩ = some (.int .i64 rp) := by go_simp
    have kb7_2_1 : w7.cell? ⟨w3.heap.size, 1, none⟩ = some (.int .i64 rq) := by go_simp
    have kb7_2_2 : w7.cell? ⟨w3.heap.size, 2, none⟩ = some (.slice a3 R.length c3) := by go_simp
    have kb7_3_0 : w7.cell? ⟨w5.heap.size, 0, none⟩ = some (.int .i64 rp) := by go_simp
    have kb7_3_1 : w7.cell? ⟨w5.heap.size, 1, none⟩ = some (.int .i64 rq) := by go_simp
    have kb7_3_2 : w7.cell? ⟨w5.heap.size, 2, none⟩ = some (.slice a4 R.length c4) := by go_simp
    have HB7 := Lib.hid (HB6.out.trans (hN7.mono (by first | exact Nat.le_refl _ | omega)))
    have HR7_d := Lib.hid (HR6_d.out.below hN7 (by first | exact Nat.le_refl _ | omega))
    have HR7_x := Lib.hid (HR6_x.out.below hN7 (by first | exact Nat.le_refl _ | omega))
    have HR7_y := Lib.hid (HR6_y.out.below hN7 (by first | exact Nat.le_refl _ | omega))
    clear hc7 hf7 hb7 hN7 hz7
    have hres := HRES.out
    clear HRES HS
    cases ok with
    | false =>
      obtain ⟨s, hs⟩ : ∃ s, deskEq ⟨(rp, rq), R⟩ ⟨(p, q), L⟩ = s := ⟨_, rfl⟩
      have HQ := Lib.hid hs
      cases s with
      | true =>
        clear hs hres
        go_wp2_with fail
        refine (sameDesk_is _ _ _ _ rp rq p q _ _ R L _ HR7_x.out HR7_d.out hRn hn true HQ.out).mono ?_
        rintro e w8 ⟨rfl, hb8⟩
        obtain ⟨hc8, hf8⟩ := bcell hb8
        have hz8 := hb8.size
        try simp at hz8
        have hN8 : Below w7.heap.size w7 w8 := by
          refine Below.trans ?_ (hb8.mono (by first | omega | (simp <;> omega)))
          (repeat (first | exact Below.refl _ _ | refine Below.setCell ?_ (by first | omega | (simp <;> omega)) _ | refine Below.alloc ?_ (by first | omega | (simp <;> omega)) _ | refine Below.drew ?_))
        have hn8 := hN8.size
        have hs8_0 : w1.heap.size < w8.heap.size := by omega
        have hs8_1 : w1.heap.size + 1 < w8.heap.size := by omega
        have hs8_2 : w3.heap.size < w8.heap.size := by omega
        have kb8_0_0 : w8.cell? ⟨w1.heap.size, 0, none⟩ = some (.int .i64 p) := by go_simp
        have kb8_0_1 : w8.cell? ⟨w1.heap.size, 1, none⟩ = some (.int .i64 q) := by go_simp
        have kb8_0_2 : w8.cell? ⟨w1.heap.size, 2, none⟩ = some (.slice a2 L.length c2) := by go_simp
        have kb8_1_0 : w8.cell? ⟨w1.heap.size + 1, 0, none⟩ = some (.int .i64 k) := by go_simp
        have kb8_1_1 : w8.cell? ⟨w1.heap.size + 1, 1, none⟩ = some (.int .i64 x) := by go_simp
        have kb8_1_2 : w8.cell? ⟨w1.heap.size + 1, 2, none⟩ = some (.int .i64 y) := by go_simp
        have kb8_2_0 : w8.cell? ⟨w3.heap.size, 0, none⟩ = some (.int .i64 rp) := by go_simp
        have kb8_2_1 : w8.cell? ⟨w3.heap.size, 1, none⟩ = some (.int .i64 rq) := by go_simp
        have kb8_2_2 : w8.cell? ⟨w3.heap.size, 2, none⟩ = some (.slice a3 R.length c3) := by go_simp
        have HB8 := Lib.hid (HB7.out.trans (hN8.mono (by first | exact Nat.le_refl _ | omega)))
        have HR8_d := Lib.hid (HR7_d.out.below hN8 (by first | exact Nat.le_refl _ | omega))
        have HR8_x := Lib.hid (HR7_x.out.below hN8 (by first | exact Nat.le_refl _ | omega))
        clear hc8 hf8 hb8 hN8 hz8
        go_wp2_with fail
        refine (alive_any _).mono ?_
        rintro e w9 ⟨rfl, hb9⟩
        obtain ⟨hc9, hf9⟩ := bcell hb9
        have hz9 := hb9.size
        try simp at hz9
        have hN9 : Below w8.heap.size w8 w9 := by
          refine Below.trans ?_ (hb9.mono (by first | omega | (simp <;> omega)))
          (repeat (first | exact Below.refl _ _ | refine Below.setCell ?_ (by first | omega | (simp <;> omega)) _ | refine Below.alloc ?_ (by first | omega | (simp <;> omega)) _ | refine Below.drew ?_))
        have hn9 := hN9.size
        have hs9_0 : w1.heap.size < w9.heap.size := by omega
        have hs9_1 : w1.heap.size + 1 < w9.heap.size := by omega
        have hs9_2 : w3.heap.size < w9.heap.size := by omega
        have kb9_0_0 : w9.cell? ⟨w1.heap.size, 0, none⟩ = some (.int .i64 p) := by go_simp
        have kb9_0_1 : w9.cell? ⟨w1.heap.size, 1, none⟩ = some (.int .i64 q) := by go_simp
        have kb9_0_2 : w9.cell? ⟨w1.heap.size, 2, none⟩ = some (.slice a2 L.length c2) := by go_simp
        have kb9_1_0 : w9.cell? ⟨w1.heap.size + 1, 0, none⟩ = some (.int .i64 k) := by go_simp
        have kb9_1_1 : w9.cell? ⟨w1.heap.size + 1, 1, none⟩ = some (.int .i64 x) := by go_simp
        have kb9_1_2 : w9.cell? ⟨w1.heap.size + 1, 2, none⟩ = some (.int .i64 y) := by go_simp
        have kb9_2_0 : w9.cell? ⟨w3.heap.size, 0, none⟩ = some (.int .i64 rp) := by go_simp
        have kb9_2_1 : w9.cell? ⟨w3.heap.size, 1, none⟩ = some (.int .i64 rq) := by go_simp
        have kb9_2_2 : w9.cell? ⟨w3.heap.size, 2, none⟩ = some (.slice a3 R.length c3) := by go_simp
        have HB9 := Lib.hid (HB8.out.trans (hN9.mono (by first | exact Nat.le_refl _ | omega)))
        have HR9_d := Lib.hid (HR8_d.out.below hN9 (by first | exact Nat.le_refl _ | omega))
        have HR9_x := Lib.hid (HR8_x.out.below hN9 (by first | exact Nat.le_refl _ | omega))
        clear hc9 hf9 hb9 hN9 hz9
        go_wp2
        go_ret
        exact ⟨rfl, HB9.out⟩
      | false =>
        have hd : deskN ⟨(p, q), L⟩ = false := by
          cases hd : deskN ⟨(p, q), L⟩ with
          | false => rfl
          | true =>
            rw [doR_yes hd] at hres
            have h1 := doN_no (d := ⟨(p, q), L⟩) (x := ⟨k, x, y⟩) (by rw [hres])
            rw [hres] at h1
            dsimp only at h1
            rw [h1, deskEq, decide_eq_false_iff_not] at hs
            exact absurd rfl hs
        have HD := Lib.hid hd
        clear hd hs hres
        go_wp2_with fail
        refine (sameDesk_is _ _ _ _ rp rq p q _ _ R L _ HR7_x.out HR7_d.out hRn hn false HQ.out).mono ?_
        rintro e w8 ⟨rfl, hb8⟩
        obtain ⟨hc8, hf8⟩ := bcell hb8
        have hz8 := hb8.size
        try simp at hz8
        have hN8 : Below w7.heap.size w7 w8 := by
          refine Below.trans ?_ (hb8.mono (by first | omega | (simp <;> omega)))
          (repeat (first | exact Below.refl _ _ | refine Below.setCell ?_ (by first | omega | (simp <;> omega)) _ | refine Below.alloc ?_ (by first | omega | (simp <;> omega)) _ | refine Below.drew ?_))
        have hn8 := hN8.size
        have hs8_0 : w1.heap.size < w8.heap.size := by omega
        have hs8_1 : w1.heap.size + 1 < w8.heap.size := by omega
        have hs8_2 : w3.heap.size < w8.heap.size := by omega
        have kb8_0_0 : w8.cell? ⟨w1.heap.size, 0, none⟩ = some (.int .i64 p) := by go_simp
        have kb8_0_1 : w8.cell? ⟨w1.heap.size, 1, none⟩ = some (.int .i64 q) := by go_simp
        have kb8_0_2 : w8.cell? ⟨w1.heap.size, 2, none⟩ = some (.slice a2 L.length c2) := by go_simp
        have kb8_1_0 : w8.cell? ⟨w1.heap.size + 1, 0, none⟩ = some (.int .i64 k) := by go_simp
        have kb8_1_1 : w8.cell? ⟨w1.heap.size + 1, 1, none⟩ = some (.int .i64 x) := by go_simp
        have kb8_1_2 : w8.cell? ⟨w1.heap.size + 1, 2, none⟩ = some (.int .i64 y) := by go_simp
        have kb8_2_0 : w8.cell? ⟨w3.heap.size, 0, none⟩ = some (.int .i64 rp) := by go_simp
        have kb8_2_1 : w8.cell? ⟨w3.heap.size, 1, none⟩ = some (.int .i64 rq) := by go_simp
        have kb8_2_2 : w8.cell? ⟨w3.heap.size, 2, none⟩ = some (.slice a3 R.length c3) := by go_simp
        have HB8 := Lib.hid (HB7.out.trans (hN8.mono (by first | exact Nat.le_refl _ | omega)))
        have HR8_d := Lib.hid (HR7_d.out.below hN8 (by first | exact Nat.le_refl _ | omega))
        have HR8_x := Lib.hid (HR7_x.out.below hN8 (by first | exact Nat.le_refl _ | omega))
        clear hc8 hf8 hb8 hN8 hz8
        go_wp2_with fail
        refine (implOk_is _ _ p q L _ _ HR8_d.out hn false HD.out).mono ?_
        rintro e w9 ⟨rfl, hb9⟩
        obtain ⟨hc9, hf9⟩ := bcell hb9
        have hz9 := hb9.size
        try simp at hz9
        have hN9 : Below w8.heap.size w8 w9 := by
          refine Below.trans ?_ (hb9.mono (by first | omega | (simp <;> omega)))
          (repeat (first | exact Below.refl _ _ | refine Below.setCell ?_ (by first | omega | (simp <;> omega)) _ | refine Below.alloc ?_ (by first | omega | (simp <;> omega)) _ | refine Below.drew ?_))
        have hn9 := hN9.size
        have hs9_0 : w1.heap.size < w9.heap.size := by omega
        have hs9_1 : w1.heap.size + 1 < w9.heap.size := by omega
        have hs9_2 : w3.heap.size < w9.heap.size := by omega
        have kb9_0_0 : w9.cell? ⟨w1.heap.size, 0, none⟩ = some (.int .i64 p) := by go_simp
        have kb9_0_1 : w9.cell? ⟨w1.heap.size, 1, none⟩ = some (.int .i64 q) := by go_simp
        have kb9_0_2 : w9.cell? ⟨w1.heap.size, 2, none⟩ = some (.slice a2 L.length c2) := by go_simp
        have kb9_1_0 : w9.cell? ⟨w1.heap.size + 1, 0, none⟩ = some (.int .i64 k) := by go_simp
        have kb9_1_1 : w9.cell? ⟨w1.heap.size + 1, 1, none⟩ = some (.int .i64 x) := by go_simp
        have kb9_1_2 : w9.cell? ⟨w1.heap.size + 1, 2, none⟩ = some (.int .i64 y) := by go_simp
        have kb9_2_0 : w9.cell? ⟨w3.heap.size, 0, none⟩ = some (.int .i64 rp) := by go_simp
        have kb9_2_1 : w9.cell? ⟨w3.heap.size, 1, none⟩ = some (.int .i64 rq) := by go_simp
        have kb9_2_2 : w9.cell? ⟨w3.heap.size, 2, none⟩ = some (.slice a3 R.length c3) := by go_simp
        have HB9 := Lib.hid (HB8.out.trans (hN9.mono (by first | exact Nat.le_refl _ | omega)))
        have HR9_d := Lib.hid (HR8_d.out.below hN9 (by first | exact Nat.le_refl _ | omega))
        have HR9_x := Lib.hid (HR8_x.out.below hN9 (by first | exact Nat.le_refl _ | omega))
        clear hc9 hf9 hb9 hN9 hz9
        go_wp2_with fail
        refine (alive_any _).mono ?_
        rintro e w10 ⟨rfl, hb10⟩
        obtain ⟨hc10, hf10⟩ := bcell hb10
        have hz10 := hb10.size
        try simp at hz10
        have hN10 : Below w9.heap.size w9 w10 := by
          refine Below.trans ?_ (hb10.mono (by first | omega | (simp <;> omega)))
          (repeat (first | exact Below.refl _ _ | refine Below.setCell ?_ (by first | omega | (simp <;> omega)) _ | refine Below.alloc ?_ (by first | omega | (simp <;> omega)) _ | refine Below.drew ?_))
        have hn10 := hN10.size
        have hs10_0 : w1.heap.size < w10.heap.size := by omega
        have hs10_1 : w1.heap.size + 1 < w10.heap.size := by omega
        have hs10_2 : w3.heap.size < w10.heap.size := by omega
        have kb10_0_0 : w10.cell? ⟨w1.heap.size, 0, none⟩ = some (.int .i64 p) := by go_simp
        have kb10_0_1 : w10.cell? ⟨w1.heap.size, 1, none⟩ = some (.int .i64 q) := by go_simp
        have kb10_0_2 : w10.cell? ⟨w1.heap.size, 2, none⟩ = some (.slice a2 L.length c2) := by go_simp
        have kb10_1_0 : w10.cell? ⟨w1.heap.size + 1, 0, none⟩ = some (.int .i64 k) := by go_simp
        have kb10_1_1 : w10.cell? ⟨w1.heap.size + 1, 1, none⟩ = some (.int .i64 x) := by go_simp
        have kb10_1_2 : w10.cell? ⟨w1.heap.size + 1, 2, none⟩ = some (.int .i64 y) := by go_simp
        have kb10_2_0 : w10.cell? ⟨w3.heap.size, 0, none⟩ = some (.int .i64 rp) := by go_simp
        have kb10_2_1 : w10.cell? ⟨w3.heap.size, 1, none⟩ = some (.int .i64 rq) := by go_simp
        have kb10_2_2 : w10.cell? ⟨w3.heap.size, 2, none⟩ = some (.slice a3 R.length c3) := by go_simp
        have HB10 := Lib.hid (HB9.out.trans (hN10.mono (by first | exact Nat.le_refl _ | omega)))
        have HR10_d := Lib.hid (HR9_d.out.below hN10 (by first | exact Nat.le_refl _ | omega))
        have HR10_x := Lib.hid (HR9_x.out.below hN10 (by first | exact Nat.le_refl _ | omega))
        clear hc10 hf10 hb10 hN10 hz10
        go_wp2
        go_ret
        exact ⟨rfl, HB10.out⟩
    | true =>
        have hd : deskN ⟨(p, q), L⟩ = true := by
          cases hd : deskN ⟨(p, q), L⟩ with
          | true => rfl
          | false => rw [doR_no hd] at hres; cases hres
        rw [doR_yes hd] at hres
        have hdd : deskN ⟨(rp, rq), R⟩ = true := by have := doN_desk ⟨k, x, y⟩ hd; rwa [hres] at this
        have HR := Lib.hid hdd
        have hp : pairB p q = true := (deskN_of hd).1
        have hrp : pairB rp rq = true := (deskN_of hdd).1
        have hK := fun (W : World) (B C : Nat) (a : Option Addr) (c : Nat) (hI : IsPairs B C W (.slice a R.length c) R) => implDo_any B C rp rq 4 0 0 R _ W hI hRn
        unfold DeskRet at hK
        rw [doR_yes hdd] at hK
        rcases (show k = 4 ∨ ¬ k = 4 by omega) with rfl | hk4
        · obtain ⟨bp, bq, M, bk, hbk⟩ : ∃ bp bq M bk, doN ⟨(rp, rq), R⟩ ⟨4, 0, 0⟩ = (⟨(bp, bq), M⟩, bk) := ⟨_, _, _, _, rfl⟩
          rw [hbk] at hK
          dsimp only at hK
          have HK := Lib.hid hK
          clear hK hbk hd hdd hres
          go_wp2_with fail
          refine (HK.out _ _ _ _ _ HR7_x.out).mono ?_
          rintro e w8 ⟨a5, c5, rfl, hI5, hb8⟩
          obtain ⟨hc8, hf8⟩ := bcell hb8
          have hz8 := hb8.size
          try simp at hz8
          have hN8 : Below w7.heap.size w7 w8 := by
            refine Below.trans ?_ (hb8.mono (by first | omega | (simp <;> omega)))
            (repeat (first | exact Below.refl _ _ | refine Below.setCell ?_ (by first | omega | (simp <;> omega)) _ | refine Below.alloc ?_ (by first | omega | (simp <;> omega)) _ | refine Below.drew ?_))
          have hn8 := hN8.size
          have hs8_0 : w1.heap.size < w8.heap.size := by omega
          have hs8_1 : w1.heap.size + 1 < w8.heap.size := by omega
          have hs8_2 : w3.heap.size < w8.heap.size := by omega
          have kb8_0_0 : w8.cell? ⟨w1.heap.size, 0, none⟩ = some (.int .i64 p) := by go_simp
          have kb8_0_1 : w8.cell? ⟨w1.heap.size, 1, none⟩ = some (.int .i64 q) := by go_simp
          have kb8_0_2 : w8.cell? ⟨w1.heap.size, 2, none⟩ = some (.slice a2 L.length c2) := by go_simp
          have kb8_1_0 : w8.cell? ⟨w1.heap.size + 1, 0, none⟩ = some (.int .i64 4) := by go_simp
          have kb8_1_1 : w8.cell? ⟨w1.heap.size + 1, 1, none⟩ = some (.int .i64 x) := by go_simp
          have kb8_1_2 : w8.cell? ⟨w1.heap.size + 1, 2, none⟩ = some (.int .i64 y) := by go_simp
          have kb8_2_0 : w8.cell? ⟨w3.heap.size, 0, none⟩ = some (.int .i64 rp) := by go_simp
          have kb8_2_1 : w8.cell? ⟨w3.heap.size, 1, none⟩ = some (.int .i64 rq) := by go_simp
          have kb8_2_2 : w8.cell? ⟨w3.heap.size, 2, none⟩ = some (.slice a3 R.length c3) := by go_simp
          have HB8 := Lib.hid (HB7.out.trans (hN8.mono (by first | exact Nat.le_refl _ | omega)))
          have HR8_d := Lib.hid (HR7_d.out.below hN8 (by first | exact Nat.le_refl _ | omega))
          have HR8_x := Lib.hid (HR7_x.out.below hN8 (by first | exact Nat.le_refl _ | omega))
          clear hc8 hf8 hb8 hN8 hz8
          have HR8_b := Lib.hid (hI5)
          clear hI5
          go_wp2_with fail
          refine calls_namedD ?_
          intro w9 hw9
          have hN9 : Below w8.heap.size w8 w9 := by
            rw [hw9]
            (repeat (first | exact Below.refl _ _ | refine Below.setCell ?_ (by first | omega | (simp <;> omega)) _ | refine Below.alloc ?_ (by first | omega | (simp <;> omega)) _ | refine Below.drew ?_))
          have hz9 : w9.heap.size = _ := congrArg (fun W : World => W.heap.size) hw9
          try simp at hz9
          have hn9 := hN9.size
          have hs9_0 : w1.heap.size < w9.heap.size := by omega
          have hs9_1 : w1.heap.size + 1 < w9.heap.size := by omega
          have hs9_2 : w3.heap.size < w9.heap.size := by omega
          have hs9_3 : w8.heap.size < w9.heap.size := by omega
          have kb9_0_0 : w9.cell? ⟨w1.heap.size, 0, none⟩ = some (.int .i64 p) := by rw [hw9]; go_simp
          have kb9_0_1 : w9.cell? ⟨w1.heap.size, 1, none⟩ = some (.int .i64 q) := by rw [hw9]; go_simp
          have kb9_0_2 : w9.cell? ⟨w1.heap.size, 2, none⟩ = some (.slice a2 L.length c2) := by rw [hw9]; go_simp
          have kb9_1_0 : w9.cell? ⟨w1.heap.size + 1, 0, none⟩ = some (.int .i64 4) := by rw [hw9]; go_simp
          have kb9_1_1 : w9.cell? ⟨w1.heap.size + 1, 1, none⟩ = some (.int .i64 x) := by rw [hw9]; go_simp
          have kb9_1_2 : w9.cell? ⟨w1.heap.size + 1, 2, none⟩ = some (.int .i64 y) := by rw [hw9]; go_simp
          have kb9_2_0 : w9.cell? ⟨w3.heap.size, 0, none⟩ = some (.int .i64 rp) := by rw [hw9]; go_simp
          have kb9_2_1 : w9.cell? ⟨w3.heap.size, 1, none⟩ = some (.int .i64 rq) := by rw [hw9]; go_simp
          have kb9_2_2 : w9.cell? ⟨w3.heap.size, 2, none⟩ = some (.slice a3 R.length c3) := by rw [hw9]; go_simp
          have kb9_3_0 : w9.cell? ⟨w8.heap.size, 0, none⟩ = some (.int .i64 bp) := by rw [hw9]; go_simp
          have kb9_3_1 : w9.cell? ⟨w8.heap.size, 1, none⟩ = some (.int .i64 bq) := by rw [hw9]; go_simp
          have kb9_3_2 : w9.cell? ⟨w8.heap.size, 2, none⟩ = some (.slice a5 M.length c5) := by rw [hw9]; go_simp
          have HB9 := Lib.hid (HB8.out.trans (hN9.mono (by first | exact Nat.le_refl _ | omega)))
          have HR9_d := Lib.hid (HR8_d.out.below hN9 (by first | exact Nat.le_refl _ | omega))
          have HR9_x := Lib.hid (HR8_x.out.below hN9 (by first | exact Nat.le_refl _ | omega))
          have HR9_b := Lib.hid (HR8_b.out.below hN9 (by first | exact Nat.le_refl _ | omega))
          clear hw9 hN9 hz9
          refine (implWeight_yes p q _ hp).mono ?_
          rintro e w10 ⟨rfl, hb10⟩
          obtain ⟨hc10, hf10⟩ := bcell hb10
          have hz10 := hb10.size
          try simp at hz10
          have hN10 : Below w9.heap.size w9 w10 := by
            refine Below.trans ?_ (hb10.mono (by first | omega | (simp <;> omega)))
            (repeat (first | exact Below.refl _ _ | refine Below.setCell ?_ (by first | omega | (simp <;> omega)) _ | refine Below.alloc ?_ (by first | omega | (simp <;> omega)) _ | refine Below.drew ?_))
          have hn10 := hN10.size
          have hs10_0 : w1.heap.size < w10.heap.size := by omega
          have hs10_1 : w1.heap.size + 1 < w10.heap.size := by omega
          have hs10_2 : w3.heap.size < w10.heap.size := by omega
          have hs10_3 : w8.heap.size < w10.heap.size := by omega
          have kb10_0_0 : w10.cell? ⟨w1.heap.size, 0, none⟩ = some (.int .i64 p) := by go_simp
          have kb10_0_1 : w10.cell? ⟨w1.heap.size, 1, none⟩ = some (.int .i64 q) := by go_simp
          have kb10_0_2 : w10.cell? ⟨w1.heap.size, 2, none⟩ = some (.slice a2 L.length c2) := by go_simp
          have kb10_1_0 : w10.cell? ⟨w1.heap.size + 1, 0, none⟩ = some (.int .i64 4) := by go_simp
          have kb10_1_1 : w10.cell? ⟨w1.heap.size + 1, 1, none⟩ = some (.int .i64 x) := by go_simp
          have kb10_1_2 : w10.cell? ⟨w1.heap.size + 1, 2, none⟩ = some (.int .i64 y) := by go_simp
          have kb10_2_0 : w10.cell? ⟨w3.heap.size, 0, none⟩ = some (.int .i64 rp) := by go_simp
          have kb10_2_1 : w10.cell? ⟨w3.heap.size, 1, none⟩ = some (.int .i64 rq) := by go_simp
          have kb10_2_2 : w10.cell? ⟨w3.heap.size, 2, none⟩ = some (.slice a3 R.length c3) := by go_simp
          have kb10_3_0 : w10.cell? ⟨w8.heap.size, 0, none⟩ = some (.int .i64 bp) := by go_simp
          have kb10_3_1 : w10.cell? ⟨w8.heap.size, 1, none⟩ = some (.int .i64 bq) := by go_simp
          have kb10_3_2 : w10.cell? ⟨w8.heap.size, 2, none⟩ = some (.slice a5 M.length c5) := by go_simp
          have HB10 := Lib.hid (HB9.out.trans (hN10.mono (by first | exact Nat.le_refl _ | omega)))
          have HR10_d := Lib.hid (HR9_d.out.below hN10 (by first | exact Nat.le_refl _ | omega))
          have HR10_x := Lib.hid (HR9_x.out.below hN10 (by first | exact Nat.le_refl _ | omega))
          have HR10_b := Lib.hid (HR9_b.out.below hN10 (by first | exact Nat.le_refl _ | omega))
          clear hc10 hf10 hb10 hN10 hz10
          go_wp2_with fail
          refine (implWeight_yes rp rq _ hrp).mono ?_
          rintro e w11 ⟨rfl, hb11⟩
          obtain ⟨hc11, hf11⟩ := bcell hb11
          have hz11 := hb11.size
          try simp at hz11
          have hN11 : Below w10.heap.size w10 w11 := by
            refine Below.trans ?_ (hb11.mono (by first | omega | (simp <;> omega)))
            (repeat (first | exact Below.refl _ _ | refine Below.setCell ?_ (by first | omega | (simp <;> omega)) _ | refine Below.alloc ?_ (by first | omega | (simp <;> omega)) _ | refine Below.drew ?_))
          have hn11 := hN11.size
          have hs11_0 : w1.heap.size < w11.heap.size := by omega
          have hs11_1 : w1.heap.size + 1 < w11.heap.size := by omega
          have hs11_2 : w3.heap.size < w11.heap.size := by omega
          have hs11_3 : w8.heap.size < w11.heap.size := by omega
          have kb11_0_0 : w11.cell? ⟨w1.heap.size, 0, none⟩ = some (.int .i64 p) := by go_simp
          have kb11_0_1 : w11.cell? ⟨w1.heap.size, 1, none⟩ = some (.int .i64 q) := by go_simp
          have kb11_0_2 : w11.cell? ⟨w1.heap.size, 2, none⟩ = some (.slice a2 L.length c2) := by go_simp
          have kb11_1_0 : w11.cell? ⟨w1.heap.size + 1, 0, none⟩ = some (.int .i64 4) := by go_simp
          have kb11_1_1 : w11.cell? ⟨w1.heap.size + 1, 1, none⟩ = some (.int .i64 x) := by go_simp
          have kb11_1_2 : w11.cell? ⟨w1.heap.size + 1, 2, none⟩ = some (.int .i64 y) := by go_simp
          have kb11_2_0 : w11.cell? ⟨w3.heap.size, 0, none⟩ = some (.int .i64 rp) := by go_simp
          have kb11_2_1 : w11.cell? ⟨w3.heap.size, 1, none⟩ = some (.int .i64 rq) := by go_simp
          have kb11_2_2 : w11.cell? ⟨w3.heap.size, 2, none⟩ = some (.slice a3 R.length c3) := by go_simp
          have kb11_3_0 : w11.cell? ⟨w8.heap.size, 0, none⟩ = some (.int .i64 bp) := by go_simp
          have kb11_3_1 : w11.cell? ⟨w8.heap.size, 1, none⟩ = some (.int .i64 bq) := by go_simp
          have kb11_3_2 : w11.cell? ⟨w8.heap.size, 2, none⟩ = some (.slice a5 M.length c5) := by go_simp
          have HB11 := Lib.hid (HB10.out.trans (hN11.mono (by first | exact Nat.le_refl _ | omega)))
          have HR11_d := Lib.hid (HR10_d.out.below hN11 (by first | exact Nat.le_refl _ | omega))
          have HR11_x := Lib.hid (HR10_x.out.below hN11 (by first | exact Nat.le_refl _ | omega))
          have HR11_b := Lib.hid (HR10_b.out.below hN11 (by first | exact Nat.le_refl _ | omega))
          clear hc11 hf11 hb11 hN11 hz11
          go_wp2_with fail
          refine (implOk_is _ _ rp rq R _ _ HR11_x.out hRn true HR.out).mono ?_
          rintro e w12 ⟨rfl, hb12⟩
          obtain ⟨hc12, hf12⟩ := bcell hb12
          have hz12 := hb12.size
          try simp at hz12
          have hN12 : Below w11.heap.size w11 w12 := by
            refine Below.trans ?_ (hb12.mono (by first | omega | (simp <;> omega)))
            (repeat (first | exact Below.refl _ _ | refine Below.setCell ?_ (by first | omega | (simp <;> omega)) _ | refine Below.alloc ?_ (by first | omega | (simp <;> omega)) _ | refine Below.drew ?_))
          have hn12 := hN12.size
          have hs12_0 : w1.heap.size < w12.heap.size := by omega
          have hs12_1 : w1.heap.size + 1 < w12.heap.size := by omega
          have hs12_2 : w3.heap.size < w12.heap.size := by omega
          have hs12_3 : w8.heap.size < w12.heap.size := by omega
          have kb12_0_0 : w12.cell? ⟨w1.heap.size, 0, none⟩ = some (.int .i64 p) := by go_simp
          have kb12_0_1 : w12.cell? ⟨w1.heap.size, 1, none⟩ = some (.int .i64 q) := by go_simp
          have kb12_0_2 : w12.cell? ⟨w1.heap.size, 2, none⟩ = some (.slice a2 L.length c2) := by go_simp
          have kb12_1_0 : w12.cell? ⟨w1.heap.size + 1, 0, none⟩ = some (.int .i64 4) := by go_simp
          have kb12_1_1 : w12.cell? ⟨w1.heap.size + 1, 1, none⟩ = some (.int .i64 x) := by go_simp
          have kb12_1_2 : w12.cell? ⟨w1.heap.size + 1, 2, none⟩ = some (.int .i64 y) := by go_simp
          have kb12_2_0 : w12.cell? ⟨w3.heap.size, 0, none⟩ = some (.int .i64 rp) := by go_simp
          have kb12_2_1 : w12.cell? ⟨w3.heap.size, 1, none⟩ = some (.int .i64 rq) := by go_simp
          have kb12_2_2 : w12.cell? ⟨w3.heap.size, 2, none⟩ = some (.slice a3 R.length c3) := by go_simp
          have kb12_3_0 : w12.cell? ⟨w8.heap.size, 0, none⟩ = some (.int .i64 bp) := by go_simp
          have kb12_3_1 : w12.cell? ⟨w8.heap.size, 1, none⟩ = some (.int .i64 bq) := by go_simp
          have kb12_3_2 : w12.cell? ⟨w8.heap.size, 2, none⟩ = some (.slice a5 M.length c5) := by go_simp
          have HB12 := Lib.hid (HB11.out.trans (hN12.mono (by first | exact Nat.le_refl _ | omega)))
          have HR12_d := Lib.hid (HR11_d.out.below hN12 (by first | exact Nat.le_refl _ | omega))
          have HR12_x := Lib.hid (HR11_x.out.below hN12 (by first | exact Nat.le_refl _ | omega))
          have HR12_b := Lib.hid (HR11_b.out.below hN12 (by first | exact Nat.le_refl _ | omega))
          clear hc12 hf12 hb12 hN12 hz12
          go_wp2_with fail
          refine (alive_any _).mono ?_
          rintro e w13 ⟨rfl, hb13⟩
          obtain ⟨hc13, hf13⟩ := bcell hb13
          have hz13 := hb13.size
          try simp at hz13
          have hN13 : Below w12.heap.size w12 w13 := by
            refine Below.trans ?_ (hb13.mono (by first | omega | (simp <;> omega)))
            (repeat (first | exact Below.refl _ _ | refine Below.setCell ?_ (by first | omega | (simp <;> omega)) _ | refine Below.alloc ?_ (by first | omega | (simp <;> omega)) _ | refine Below.drew ?_))
          have hn13 := hN13.size
          have hs13_0 : w1.heap.size < w13.heap.size := by omega
          have hs13_1 : w1.heap.size + 1 < w13.heap.size := by omega
          have hs13_2 : w3.heap.size < w13.heap.size := by omega
          have hs13_3 : w8.heap.size < w13.heap.size := by omega
          have kb13_0_0 : w13.cell? ⟨w1.heap.size, 0, none⟩ = some (.int .i64 p) := by go_simp
          have kb13_0_1 : w13.cell? ⟨w1.heap.size, 1, none⟩ = some (.int .i64 q) := by go_simp
          have kb13_0_2 : w13.cell? ⟨w1.heap.size, 2, none⟩ = some (.slice a2 L.length c2) := by go_simp
          have kb13_1_0 : w13.cell? ⟨w1.heap.size + 1, 0, none⟩ = some (.int .i64 4) := by go_simp
          have kb13_1_1 : w13.cell? ⟨w1.heap.size + 1, 1, none⟩ = some (.int .i64 x) := by go_simp
          have kb13_1_2 : w13.cell? ⟨w1.heap.size + 1, 2, none⟩ = some (.int .i64 y) := by go_simp
          have kb13_2_0 : w13.cell? ⟨w3.heap.size, 0, none⟩ = some (.int .i64 rp) := by go_simp
          have kb13_2_1 : w13.cell? ⟨w3.heap.size, 1, none⟩ = some (.int .i64 rq) := by go_simp
          have kb13_2_2 : w13.cell? ⟨w3.heap.size, 2, none⟩ = some (.slice a3 R.length c3) := by go_simp
          have kb13_3_0 : w13.cell? ⟨w8.heap.size, 0, none⟩ = some (.int .i64 bp) := by go_simp
          have kb13_3_1 : w13.cell? ⟨w8.heap.size, 1, none⟩ = some (.int .i64 bq) := by go_simp
          have kb13_3_2 : w13.cell? ⟨w8.heap.size, 2, none⟩ = some (.slice a5 M.length c5) := by go_simp
          have HB13 := Lib.hid (HB12.out.trans (hN13.mono (by first | exact Nat.le_refl _ | omega)))
          have HR13_d := Lib.hid (HR12_d.out.below hN13 (by first | exact Nat.le_refl _ | omega))
          have HR13_x := Lib.hid (HR12_x.out.below hN13 (by first | exact Nat.le_refl _ | omega))
          have HR13_b := Lib.hid (HR12_b.out.below hN13 (by first | exact Nat.le_refl _ | omega))
          clear hc13 hf13 hb13 hN13 hz13
          go_wp2
          go_ret
          exact ⟨rfl, HB13.out⟩
        · have hbk : doN ⟨(rp, rq), R⟩ ⟨4, 0, 0⟩ = (⟨(p, q), L⟩, true) := by
            have := doN_back (d := ⟨(p, q), L⟩) (x := ⟨k, x, y⟩) (fun e => hk4 (by injection e)) (by rw [hres]) (by show L.length < 8; omega)
            rwa [hres] at this
          rw [hbk] at hK
          dsimp only at hK
          have HK := Lib.hid hK
          clear hK hbk
          rcases (show k = 1 ∨ ¬ k = 1 by omega) with rfl | hk1
          · have hx0 := doN_turn_is (d := ⟨(p, q), L⟩) (x := ⟨1, x, y⟩) rfl (by rw [hres])
            have hres1 := hres
            rw [hx0] at hres1
            have hw : ((rp, rq) : Int × Int) = (-p, q) := by
              have := doN_turn (d := ⟨(p, q), L⟩) (by rw [hres1])
              rwa [hres1] at this
            have hW : ∀ w, Calls Try.prog 24 #[pr rp rq] w fun e w' => e = .returned (.tuple #[.int .i64 (weightV p q), .bool true]) ∧ Below w.heap.size w w' := by
              injection hw with h2 h3
              rw [h2, h3]
              exact fun w => implWeight_turn p q w hp
            have HW := Lib.hid hW
            clear hd hdd hres hres1 hx0 hw hW
            go_wp2_with fail
            refine (HK.out _ _ _ _ _ HR7_x.out).mono ?_
            rintro e w8 ⟨a5, c5, rfl, hI5, hb8⟩
            obtain ⟨hc8, hf8⟩ := bcell hb8
            have hz8 := hb8.size
            try simp at hz8
            have hN8 : Below w7.heap.size w7 w8 := by
              refine Below.trans ?_ (hb8.mono (by first | omega | (simp <;> omega)))
              (repeat (first | exact Below.refl _ _ | refine Below.setCell ?_ (by first | omega | (simp <;> omega)) _ | refine Below.alloc ?_ (by first | omega | (simp <;> omega)) _ | refine Below.drew ?_))
            have hn8 := hN8.size
            have hs8_0 : w1.heap.size < w8.heap.size := by omega
            have hs8_1 : w1.heap.size + 1 < w8.heap.size := by omega
            have hs8_2 : w3.heap.size < w8.heap.size := by omega
            have kb8_0_0 : w8.cell? ⟨w1.heap.size, 0, none⟩ = some (.int .i64 p) := by go_simp
            have kb8_0_1 : w8.cell? ⟨w1.heap.size, 1, none⟩ = some (.int .i64 q) := by go_simp
            have kb8_0_2 : w8.cell? ⟨w1.heap.size, 2, none⟩ = some (.slice a2 L.length c2) := by go_simp
            have kb8_1_0 : w8.cell? ⟨w1.heap.size + 1, 0, none⟩ = some (.int .i64 1) := by go_simp
            have kb8_1_1 : w8.cell? ⟨w1.heap.size + 1, 1, none⟩ = some (.int .i64 x) := by go_simp
            have kb8_1_2 : w8.cell? ⟨w1.heap.size + 1, 2, none⟩ = some (.int .i64 y) := by go_simp
            have kb8_2_0 : w8.cell? ⟨w3.heap.size, 0, none⟩ = some (.int .i64 rp) := by go_simp
            have kb8_2_1 : w8.cell? ⟨w3.heap.size, 1, none⟩ = some (.int .i64 rq) := by go_simp
            have kb8_2_2 : w8.cell? ⟨w3.heap.size, 2, none⟩ = some (.slice a3 R.length c3) := by go_simp
            have HB8 := Lib.hid (HB7.out.trans (hN8.mono (by first | exact Nat.le_refl _ | omega)))
            have HR8_d := Lib.hid (HR7_d.out.below hN8 (by first | exact Nat.le_refl _ | omega))
            have HR8_x := Lib.hid (HR7_x.out.below hN8 (by first | exact Nat.le_refl _ | omega))
            clear hc8 hf8 hb8 hN8 hz8
            have HR8_b := Lib.hid (hI5)
            clear hI5
            go_wp2_with fail
            refine calls_namedD ?_
            intro w9 hw9
            have hN9 : Below w8.heap.size w8 w9 := by
              rw [hw9]
              (repeat (first | exact Below.refl _ _ | refine Below.setCell ?_ (by first | omega | (simp <;> omega)) _ | refine Below.alloc ?_ (by first | omega | (simp <;> omega)) _ | refine Below.drew ?_))
            have hz9 : w9.heap.size = _ := congrArg (fun W : World => W.heap.size) hw9
            try simp at hz9
            have hn9 := hN9.size
            have hs9_0 : w1.heap.size < w9.heap.size := by omega
            have hs9_1 : w1.heap.size + 1 < w9.heap.size := by omega
            have hs9_2 : w3.heap.size < w9.heap.size := by omega
            have hs9_3 : w8.heap.size < w9.heap.size := by omega
            have kb9_0_0 : w9.cell? ⟨w1.heap.size, 0, none⟩ = some (.int .i64 p) := by rw [hw9]; go_simp
            have kb9_0_1 : w9.cell? ⟨w1.heap.size, 1, none⟩ = some (.int .i64 q) := by rw [hw9]; go_simp
            have kb9_0_2 : w9.cell? ⟨w1.heap.size, 2, none⟩ = some (.slice a2 L.length c2) := by rw [hw9]; go_simp
            have kb9_1_0 : w9.cell? ⟨w1.heap.size + 1, 0, none⟩ = some (.int .i64 1) := by rw [hw9]; go_simp
            have kb9_1_1 : w9.cell? ⟨w1.heap.size + 1, 1, none⟩ = some (.int .i64 x) := by rw [hw9]; go_simp
            have kb9_1_2 : w9.cell? ⟨w1.heap.size + 1, 2, none⟩ = some (.int .i64 y) := by rw [hw9]; go_simp
            have kb9_2_0 : w9.cell? ⟨w3.heap.size, 0, none⟩ = some (.int .i64 rp) := by rw [hw9]; go_simp
            have kb9_2_1 : w9.cell? ⟨w3.heap.size, 1, none⟩ = some (.int .i64 rq) := by rw [hw9]; go_simp
            have kb9_2_2 : w9.cell? ⟨w3.heap.size, 2, none⟩ = some (.slice a3 R.length c3) := by rw [hw9]; go_simp
            have kb9_3_0 : w9.cell? ⟨w8.heap.size, 0, none⟩ = some (.int .i64 p) := by rw [hw9]; go_simp
            have kb9_3_1 : w9.cell? ⟨w8.heap.size, 1, none⟩ = some (.int .i64 q) := by rw [hw9]; go_simp
            have kb9_3_2 : w9.cell? ⟨w8.heap.size, 2, none⟩ = some (.slice a5 L.length c5) := by rw [hw9]; go_simp
            have HB9 := Lib.hid (HB8.out.trans (hN9.mono (by first | exact Nat.le_refl _ | omega)))
            have HR9_d := Lib.hid (HR8_d.out.below hN9 (by first | exact Nat.le_refl _ | omega))
            have HR9_x := Lib.hid (HR8_x.out.below hN9 (by first | exact Nat.le_refl _ | omega))
            have HR9_b := Lib.hid (HR8_b.out.below hN9 (by first | exact Nat.le_refl _ | omega))
            clear hw9 hN9 hz9
            refine (implWeight_yes p q _ hp).mono ?_
            rintro e w10 ⟨rfl, hb10⟩
            obtain ⟨hc10, hf10⟩ := bcell hb10
            have hz10 := hb10.size
            try simp at hz10
            have hN10 : Below w9.heap.size w9 w10 := by
              refine Below.trans ?_ (hb10.mono (by first | omega | (simp <;> omega)))
              (repeat (first | exact Below.refl _ _ | refine Below.setCell ?_ (by first | omega | (simp <;> omega)) _ | refine Below.alloc ?_ (by first | omega | (simp <;> omega)) _ | refine Below.drew ?_))
            have hn10 := hN10.size
            have hs10_0 : w1.heap.size < w10.heap.size := by omega
            have hs10_1 : w1.heap.size + 1 < w10.heap.size := by omega
            have hs10_2 : w3.heap.size < w10.heap.size := by omega
            have hs10_3 : w8.heap.size < w10.heap.size := by omega
            have kb10_0_0 : w10.cell? ⟨w1.heap.size, 0, none⟩ = some (.int .i64 p) := by go_simp
            have kb10_0_1 : w10.cell? ⟨w1.heap.size, 1, none⟩ = some (.int .i64 q) := by go_simp
            have kb10_0_2 : w10.cell? ⟨w1.heap.size, 2, none⟩ = some (.slice a2 L.length c2) := by go_simp
            have kb10_1_0 : w10.cell? ⟨w1.heap.size + 1, 0, none⟩ = some (.int .i64 1) := by go_simp
            have kb10_1_1 : w10.cell? ⟨w1.heap.size + 1, 1, none⟩ = some (.int .i64 x) := by go_simp
            have kb10_1_2 : w10.cell? ⟨w1.heap.size + 1, 2, none⟩ = some (.int .i64 y) := by go_simp
            have kb10_2_0 : w10.cell? ⟨w3.heap.size, 0, none⟩ = some (.int .i64 rp) := by go_simp
            have kb10_2_1 : w10.cell? ⟨w3.heap.size, 1, none⟩ = some (.int .i64 rq) := by go_simp
            have kb10_2_2 : w10.cell? ⟨w3.heap.size, 2, none⟩ = some (.slice a3 R.length c3) := by go_simp
            have kb10_3_0 : w10.cell? ⟨w8.heap.size, 0, none⟩ = some (.int .i64 p) := by go_simp
            have kb10_3_1 : w10.cell? ⟨w8.heap.size, 1, none⟩ = some (.int .i64 q) := by go_simp
            have kb10_3_2 : w10.cell? ⟨w8.heap.size, 2, none⟩ = some (.slice a5 L.length c5) := by go_simp
            have HB10 := Lib.hid (HB9.out.trans (hN10.mono (by first | exact Nat.le_refl _ | omega)))
            have HR10_d := Lib.hid (HR9_d.out.below hN10 (by first | exact Nat.le_refl _ | omega))
            have HR10_x := Lib.hid (HR9_x.out.below hN10 (by first | exact Nat.le_refl _ | omega))
            have HR10_b := Lib.hid (HR9_b.out.below hN10 (by first | exact Nat.le_refl _ | omega))
            clear hc10 hf10 hb10 hN10 hz10
            go_wp2_with fail
            refine (HW.out _).mono ?_
            rintro e w11 ⟨rfl, hb11⟩
            obtain ⟨hc11, hf11⟩ := bcell hb11
            have hz11 := hb11.size
            try simp at hz11
            have hN11 : Below w10.heap.size w10 w11 := by
              refine Below.trans ?_ (hb11.mono (by first | omega | (simp <;> omega)))
              (repeat (first | exact Below.refl _ _ | refine Below.setCell ?_ (by first | omega | (simp <;> omega)) _ | refine Below.alloc ?_ (by first | omega | (simp <;> omega)) _ | refine Below.drew ?_))
            have hn11 := hN11.size
            have hs11_0 : w1.heap.size < w11.heap.size := by omega
            have hs11_1 : w1.heap.size + 1 < w11.heap.size := by omega
            have hs11_2 : w3.heap.size < w11.heap.size := by omega
            have hs11_3 : w8.heap.size < w11.heap.size := by omega
            have kb11_0_0 : w11.cell? ⟨w1.heap.size, 0, none⟩ = some (.int .i64 p) := by go_simp
            have kb11_0_1 : w11.cell? ⟨w1.heap.size, 1, none⟩ = some (.int .i64 q) := by go_simp
            have kb11_0_2 : w11.cell? ⟨w1.heap.size, 2, none⟩ = some (.slice a2 L.length c2) := by go_simp
            have kb11_1_0 : w11.cell? ⟨w1.heap.size + 1, 0, none⟩ = some (.int .i64 1) := by go_simp
            have kb11_1_1 : w11.cell? ⟨w1.heap.size + 1, 1, none⟩ = some (.int .i64 x) := by go_simp
            have kb11_1_2 : w11.cell? ⟨w1.heap.size + 1, 2, none⟩ = some (.int .i64 y) := by go_simp
            have kb11_2_0 : w11.cell? ⟨w3.heap.size, 0, none⟩ = some (.int .i64 rp) := by go_simp
            have kb11_2_1 : w11.cell? ⟨w3.heap.size, 1, none⟩ = some (.int .i64 rq) := by go_simp
            have kb11_2_2 : w11.cell? ⟨w3.heap.size, 2, none⟩ = some (.slice a3 R.length c3) := by go_simp
            have kb11_3_0 : w11.cell? ⟨w8.heap.size, 0, none⟩ = some (.int .i64 p) := by go_simp
            have kb11_3_1 : w11.cell? ⟨w8.heap.size, 1, none⟩ = some (.int .i64 q) := by go_simp
            have kb11_3_2 : w11.cell? ⟨w8.heap.size, 2, none⟩ = some (.slice a5 L.length c5) := by go_simp
            have HB11 := Lib.hid (HB10.out.trans (hN11.mono (by first | exact Nat.le_refl _ | omega)))
            have HR11_d := Lib.hid (HR10_d.out.below hN11 (by first | exact Nat.le_refl _ | omega))
            have HR11_x := Lib.hid (HR10_x.out.below hN11 (by first | exact Nat.le_refl _ | omega))
            have HR11_b := Lib.hid (HR10_b.out.below hN11 (by first | exact Nat.le_refl _ | omega))
            clear hc11 hf11 hb11 hN11 hz11
            go_wp2_with fail
            refine (implOk_is _ _ rp rq R _ _ HR11_x.out hRn true HR.out).mono ?_
            rintro e w12 ⟨rfl, hb12⟩
            obtain ⟨hc12, hf12⟩ := bcell hb12
            have hz12 := hb12.size
            try simp at hz12
            have hN12 : Below w11.heap.size w11 w12 := by
              refine Below.trans ?_ (hb12.mono (by first | omega | (simp <;> omega)))
              (repeat (first | exact Below.refl _ _ | refine Below.setCell ?_ (by first | omega | (simp <;> omega)) _ | refine Below.alloc ?_ (by first | omega | (simp <;> omega)) _ | refine Below.drew ?_))
            have hn12 := hN12.size
            have hs12_0 : w1.heap.size < w12.heap.size := by omega
            have hs12_1 : w1.heap.size + 1 < w12.heap.size := by omega
            have hs12_2 : w3.heap.size < w12.heap.size := by omega
            have hs12_3 : w8.heap.size < w12.heap.size := by omega
            have kb12_0_0 : w12.cell? ⟨w1.heap.size, 0, none⟩ = some (.int .i64 p) := by go_simp
            have kb12_0_1 : w12.cell? ⟨w1.heap.size, 1, none⟩ = some (.int .i64 q) := by go_simp
            have kb12_0_2 : w12.cell? ⟨w1.heap.size, 2, none⟩ = some (.slice a2 L.length c2) := by go_simp
            have kb12_1_0 : w12.cell? ⟨w1.heap.size + 1, 0, none⟩ = some (.int .i64 1) := by go_simp
            have kb12_1_1 : w12.cell? ⟨w1.heap.size + 1, 1, none⟩ = some (.int .i64 x) := by go_simp
            have kb12_1_2 : w12.cell? ⟨w1.heap.size + 1, 2, none⟩ = some (.int .i64 y) := by go_simp
            have kb12_2_0 : w12.cell? ⟨w3.heap.size, 0, none⟩ = some (.int .i64 rp) := by go_simp
            have kb12_2_1 : w12.cell? ⟨w3.heap.size, 1, none⟩ = some (.int .i64 rq) := by go_simp
            have kb12_2_2 : w12.cell? ⟨w3.heap.size, 2, none⟩ = some (.slice a3 R.length c3) := by go_simp
            have kb12_3_0 : w12.cell? ⟨w8.heap.size, 0, none⟩ = some (.int .i64 p) := by go_simp
            have kb12_3_1 : w12.cell? ⟨w8.heap.size, 1, none⟩ = some (.int .i64 q) := by go_simp
            have kb12_3_2 : w12.cell? ⟨w8.heap.size, 2, none⟩ = some (.slice a5 L.length c5) := by go_simp
            have HB12 := Lib.hid (HB11.out.trans (hN12.mono (by first | exact Nat.le_refl _ | omega)))
            have HR12_d := Lib.hid (HR11_d.out.below hN12 (by first | exact Nat.le_refl _ | omega))
            have HR12_x := Lib.hid (HR11_x.out.below hN12 (by first | exact Nat.le_refl _ | omega))
            have HR12_b := Lib.hid (HR11_b.out.below hN12 (by first | exact Nat.le_refl _ | omega))
            clear hc12 hf12 hb12 hN12 hz12
            go_wp2_with fail
            refine (sameDesk_yes _ _ _ _ p q _ _ L _ HR12_b.out HR12_d.out hn).mono ?_
            rintro e w13 ⟨rfl, hb13⟩
            obtain ⟨hc13, hf13⟩ := bcell hb13
            have hz13 := hb13.size
            try simp at hz13
            have hN13 : Below w12.heap.size w12 w13 := by
              refine Below.trans ?_ (hb13.mono (by first | omega | (simp <;> omega)))
              (repeat (first | exact Below.refl _ _ | refine Below.setCell ?_ (by first | omega | (simp <;> omega)) _ | refine Below.alloc ?_ (by first | omega | (simp <;> omega)) _ | refine Below.drew ?_))
            have hn13 := hN13.size
            have hs13_0 : w1.heap.size < w13.heap.size := by omega
            have hs13_1 : w1.heap.size + 1 < w13.heap.size := by omega
            have hs13_2 : w3.heap.size < w13.heap.size := by omega
            have hs13_3 : w8.heap.size < w13.heap.size := by omega
            have kb13_0_0 : w13.cell? ⟨w1.heap.size, 0, none⟩ = some (.int .i64 p) := by go_simp
            have kb13_0_1 : w13.cell? ⟨w1.heap.size, 1, none⟩ = some (.int .i64 q) := by go_simp
            have kb13_0_2 : w13.cell? ⟨w1.heap.size, 2, none⟩ = some (.slice a2 L.length c2) := by go_simp
            have kb13_1_0 : w13.cell? ⟨w1.heap.size + 1, 0, none⟩ = some (.int .i64 1) := by go_simp
            have kb13_1_1 : w13.cell? ⟨w1.heap.size + 1, 1, none⟩ = some (.int .i64 x) := by go_simp
            have kb13_1_2 : w13.cell? ⟨w1.heap.size + 1, 2, none⟩ = some (.int .i64 y) := by go_simp
            have kb13_2_0 : w13.cell? ⟨w3.heap.size, 0, none⟩ = some (.int .i64 rp) := by go_simp
            have kb13_2_1 : w13.cell? ⟨w3.heap.size, 1, none⟩ = some (.int .i64 rq) := by go_simp
            have kb13_2_2 : w13.cell? ⟨w3.heap.size, 2, none⟩ = some (.slice a3 R.length c3) := by go_simp
            have kb13_3_0 : w13.cell? ⟨w8.heap.size, 0, none⟩ = some (.int .i64 p) := by go_simp
            have kb13_3_1 : w13.cell? ⟨w8.heap.size, 1, none⟩ = some (.int .i64 q) := by go_simp
            have kb13_3_2 : w13.cell? ⟨w8.heap.size, 2, none⟩ = some (.slice a5 L.length c5) := by go_simp
            have HB13 := Lib.hid (HB12.out.trans (hN13.mono (by first | exact Nat.le_refl _ | omega)))
            have HR13_d := Lib.hid (HR12_d.out.below hN13 (by first | exact Nat.le_refl _ | omega))
            have HR13_x := Lib.hid (HR12_x.out.below hN13 (by first | exact Nat.le_refl _ | omega))
            have HR13_b := Lib.hid (HR12_b.out.below hN13 (by first | exact Nat.le_refl _ | omega))
            clear hc13 hf13 hb13 hN13 hz13
            go_wp2_with fail
            refine (alive_any _).mono ?_
            rintro e w14 ⟨rfl, hb14⟩
            obtain ⟨hc14, hf14⟩ := bcell hb14
            have hz14 := hb14.size
            try simp at hz14
            have hN14 : Below w13.heap.size w13 w14 := by
              refine Below.trans ?_ (hb14.mono (by first | omega | (simp <;> omega)))
              (repeat (first | exact Below.refl _ _ | refine Below.setCell ?_ (by first | omega | (simp <;> omega)) _ | refine Below.alloc ?_ (by first | omega | (simp <;> omega)) _ | refine Below.drew ?_))
            have hn14 := hN14.size
            have hs14_0 : w1.heap.size < w14.heap.size := by omega
            have hs14_1 : w1.heap.size + 1 < w14.heap.size := by omega
            have hs14_2 : w3.heap.size < w14.heap.size := by omega
            have hs14_3 : w8.heap.size < w14.heap.size := by omega
            have kb14_0_0 : w14.cell? ⟨w1.heap.size, 0, none⟩ = some (.int .i64 p) := by go_simp
            have kb14_0_1 : w14.cell? ⟨w1.heap.size, 1, none⟩ = some (.int .i64 q) := by go_simp
            have kb14_0_2 : w14.cell? ⟨w1.heap.size, 2, none⟩ = some (.slice a2 L.length c2) := by go_simp
            have kb14_1_0 : w14.cell? ⟨w1.heap.size + 1, 0, none⟩ = some (.int .i64 1) := by go_simp
            have kb14_1_1 : w14.cell? ⟨w1.heap.size + 1, 1, none⟩ = some (.int .i64 x) := by go_simp
            have kb14_1_2 : w14.cell? ⟨w1.heap.size + 1, 2, none⟩ = some (.int .i64 y) := by go_simp
            have kb14_2_0 : w14.cell? ⟨w3.heap.size, 0, none⟩ = some (.int .i64 rp) := by go_simp
            have kb14_2_1 : w14.cell? ⟨w3.heap.size, 1, none⟩ = some (.int .i64 rq) := by go_simp
            have kb14_2_2 : w14.cell? ⟨w3.heap.size, 2, none⟩ = some (.slice a3 R.length c3) := by go_simp
            have kb14_3_0 : w14.cell? ⟨w8.heap.size, 0, none⟩ = some (.int .i64 p) := by go_simp
            have kb14_3_1 : w14.cell? ⟨w8.heap.size, 1, none⟩ = some (.int .i64 q) := by go_simp
            have kb14_3_2 : w14.cell? ⟨w8.heap.size, 2, none⟩ = some (.slice a5 L.length c5) := by go_simp
            have HB14 := Lib.hid (HB13.out.trans (hN14.mono (by first | exact Nat.le_refl _ | omega)))
            have HR14_d := Lib.hid (HR13_d.out.below hN14 (by first | exact Nat.le_refl _ | omega))
            have HR14_x := Lib.hid (HR13_x.out.below hN14 (by first | exact Nat.le_refl _ | omega))
            have HR14_b := Lib.hid (HR13_b.out.below hN14 (by first | exact Nat.le_refl _ | omega))
            clear hc14 hf14 hb14 hN14 hz14
            go_wp2
            go_ret
            exact ⟨rfl, HB14.out⟩
          · clear hd hdd hres
            go_wp2_with fail
            refine (HK.out _ _ _ _ _ HR7_x.out).mono ?_
            rintro e w8 ⟨a5, c5, rfl, hI5, hb8⟩
            obtain ⟨hc8, hf8⟩ := bcell hb8
            have hz8 := hb8.size
            try simp at hz8
            have hN8 : Below w7.heap.size w7 w8 := by
              refine Below.trans ?_ (hb8.mono (by first | omega | (simp <;> omega)))
              (repeat (first | exact Below.refl _ _ | refine Below.setCell ?_ (by first | omega | (simp <;> omega)) _ | refine Below.alloc ?_ (by first | omega | (simp <;> omega)) _ | refine Below.drew ?_))
            have hn8 := hN8.size
            have hs8_0 : w1.heap.size < w8.heap.size := by omega
            have hs8_1 : w1.heap.size + 1 < w8.heap.size := by omega
            have hs8_2 : w3.heap.size < w8.heap.size := by omega
            have kb8_0_0 : w8.cell? ⟨w1.heap.size, 0, none⟩ = some (.int .i64 p) := by go_simp
            have kb8_0_1 : w8.cell? ⟨w1.heap.size, 1, none⟩ = some (.int .i64 q) := by go_simp
            have kb8_0_2 : w8.cell? ⟨w1.heap.size, 2, none⟩ = some (.slice a2 L.length c2) := by go_simp
            have kb8_1_0 : w8.cell? ⟨w1.heap.size + 1, 0, none⟩ = some (.int .i64 k) := by go_simp
            have kb8_1_1 : w8.cell? ⟨w1.heap.size + 1, 1, none⟩ = some (.int .i64 x) := by go_simp
            have kb8_1_2 : w8.cell? ⟨w1.heap.size + 1, 2, none⟩ = some (.int .i64 y) := by go_simp
            have kb8_2_0 : w8.cell? ⟨w3.heap.size, 0, none⟩ = some (.int .i64 rp) := by go_simp
            have kb8_2_1 : w8.cell? ⟨w3.heap.size, 1, none⟩ = some (.int .i64 rq) := by go_simp
            have kb8_2_2 : w8.cell? ⟨w3.heap.size, 2, none⟩ = some (.slice a3 R.length c3) := by go_simp
            have HB8 := Lib.hid (HB7.out.trans (hN8.mono (by first | exact Nat.le_refl _ | omega)))
            have HR8_d := Lib.hid (HR7_d.out.below hN8 (by first | exact Nat.le_refl _ | omega))
            have HR8_x := Lib.hid (HR7_x.out.below hN8 (by first | exact Nat.le_refl _ | omega))
            clear hc8 hf8 hb8 hN8 hz8
            have HR8_b := Lib.hid (hI5)
            clear hI5
            go_wp2_with fail
            refine calls_namedD ?_
            intro w9 hw9
            have hN9 : Below w8.heap.size w8 w9 := by
              rw [hw9]
              (repeat (first | exact Below.refl _ _ | refine Below.setCell ?_ (by first | omega | (simp <;> omega)) _ | refine Below.alloc ?_ (by first | omega | (simp <;> omega)) _ | refine Below.drew ?_))
            have hz9 : w9.heap.size = _ := congrArg (fun W : World => W.heap.size) hw9
            try simp at hz9
            have hn9 := hN9.size
            have hs9_0 : w1.heap.size < w9.heap.size := by omega
            have hs9_1 : w1.heap.size + 1 < w9.heap.size := by omega
            have hs9_2 : w3.heap.size < w9.heap.size := by omega
            have hs9_3 : w8.heap.size < w9.heap.size := by omega
            have kb9_0_0 : w9.cell? ⟨w1.heap.size, 0, none⟩ = some (.int .i64 p) := by rw [hw9]; go_simp
            have kb9_0_1 : w9.cell? ⟨w1.heap.size, 1, none⟩ = some (.int .i64 q) := by rw [hw9]; go_simp
            have kb9_0_2 : w9.cell? ⟨w1.heap.size, 2, none⟩ = some (.slice a2 L.length c2) := by rw [hw9]; go_simp
            have kb9_1_0 : w9.cell? ⟨w1.heap.size + 1, 0, none⟩ = some (.int .i64 k) := by rw [hw9]; go_simp
            have kb9_1_1 : w9.cell? ⟨w1.heap.size + 1, 1, none⟩ = some (.int .i64 x) := by rw [hw9]; go_simp
            have kb9_1_2 : w9.cell? ⟨w1.heap.size + 1, 2, none⟩ = some (.int .i64 y) := by rw [hw9]; go_simp
            have kb9_2_0 : w9.cell? ⟨w3.heap.size, 0, none⟩ = some (.int .i64 rp) := by rw [hw9]; go_simp
            have kb9_2_1 : w9.cell? ⟨w3.heap.size, 1, none⟩ = some (.int .i64 rq) := by rw [hw9]; go_simp
            have kb9_2_2 : w9.cell? ⟨w3.heap.size, 2, none⟩ = some (.slice a3 R.length c3) := by rw [hw9]; go_simp
            have kb9_3_0 : w9.cell? ⟨w8.heap.size, 0, none⟩ = some (.int .i64 p) := by rw [hw9]; go_simp
            have kb9_3_1 : w9.cell? ⟨w8.heap.size, 1, none⟩ = some (.int .i64 q) := by rw [hw9]; go_simp
            have kb9_3_2 : w9.cell? ⟨w8.heap.size, 2, none⟩ = some (.slice a5 L.length c5) := by rw [hw9]; go_simp
            have HB9 := Lib.hid (HB8.out.trans (hN9.mono (by first | exact Nat.le_refl _ | omega)))
            have HR9_d := Lib.hid (HR8_d.out.below hN9 (by first | exact Nat.le_refl _ | omega))
            have HR9_x := Lib.hid (HR8_x.out.below hN9 (by first | exact Nat.le_refl _ | omega))
            have HR9_b := Lib.hid (HR8_b.out.below hN9 (by first | exact Nat.le_refl _ | omega))
            clear hw9 hN9 hz9
            refine (implWeight_yes p q _ hp).mono ?_
            rintro e w10 ⟨rfl, hb10⟩
            obtain ⟨hc10, hf10⟩ := bcell hb10
            have hz10 := hb10.size
            try simp at hz10
            have hN10 : Below w9.heap.size w9 w10 := by
              refine Below.trans ?_ (hb10.mono (by first | omega | (simp <;> omega)))
              (repeat (first | exact Below.refl _ _ | refine Below.setCell ?_ (by first | omega | (simp <;> omega)) _ | refine Below.alloc ?_ (by first | omega | (simp <;> omega)) _ | refine Below.drew ?_))
            have hn10 := hN10.size
            have hs10_0 : w1.heap.size < w10.heap.size := by omega
            have hs10_1 : w1.heap.size + 1 < w10.heap.size := by omega
            have hs10_2 : w3.heap.size < w10.heap.size := by omega
            have hs10_3 : w8.heap.size < w10.heap.size := by omega
            have kb10_0_0 : w10.cell? ⟨w1.heap.size, 0, none⟩ = some (.int .i64 p) := by go_simp
            have kb10_0_1 : w10.cell? ⟨w1.heap.size, 1, none⟩ = some (.int .i64 q) := by go_simp
            have kb10_0_2 : w10.cell? ⟨w1.heap.size, 2, none⟩ = some (.slice a2 L.length c2) := by go_simp
            have kb10_1_0 : w10.cell? ⟨w1.heap.size + 1, 0, none⟩ = some (.int .i64 k) := by go_simp
            have kb10_1_1 : w10.cell? ⟨w1.heap.size + 1, 1, none⟩ = some (.int .i64 x) := by go_simp
            have kb10_1_2 : w10.cell? ⟨w1.heap.size + 1, 2, none⟩ = some (.int .i64 y) := by go_simp
            have kb10_2_0 : w10.cell? ⟨w3.heap.size, 0, none⟩ = some (.int .i64 rp) := by go_simp
            have kb10_2_1 : w10.cell? ⟨w3.heap.size, 1, none⟩ = some (.int .i64 rq) := by go_simp
            have kb10_2_2 : w10.cell? ⟨w3.heap.size, 2, none⟩ = some (.slice a3 R.length c3) := by go_simp
            have kb10_3_0 : w10.cell? ⟨w8.heap.size, 0, none⟩ = some (.int .i64 p) := by go_simp
            have kb10_3_1 : w10.cell? ⟨w8.heap.size, 1, none⟩ = some (.int .i64 q) := by go_simp
            have kb10_3_2 : w10.cell? ⟨w8.heap.size, 2, none⟩ = some (.slice a5 L.length c5) := by go_simp
            have HB10 := Lib.hid (HB9.out.trans (hN10.mono (by first | exact Nat.le_refl _ | omega)))
            have HR10_d := Lib.hid (HR9_d.out.below hN10 (by first | exact Nat.le_refl _ | omega))
            have HR10_x := Lib.hid (HR9_x.out.below hN10 (by first | exact Nat.le_refl _ | omega))
            have HR10_b := Lib.hid (HR9_b.out.below hN10 (by first | exact Nat.le_refl _ | omega))
            clear hc10 hf10 hb10 hN10 hz10
            go_wp2_with fail
            refine (implWeight_yes rp rq _ hrp).mono ?_
            rintro e w11 ⟨rfl, hb11⟩
            obtain ⟨hc11, hf11⟩ := bcell hb11
            have hz11 := hb11.size
            try simp at hz11
            have hN11 : Below w10.heap.size w10 w11 := by
              refine Below.trans ?_ (hb11.mono (by first | omega | (simp <;> omega)))
              (repeat (first | exact Below.refl _ _ | refine Below.setCell ?_ (by first | omega | (simp <;> omega)) _ | refine Below.alloc ?_ (by first | omega | (simp <;> omega)) _ | refine Below.drew ?_))
            have hn11 := hN11.size
            have hs11_0 : w1.heap.size < w11.heap.size := by omega
            have hs11_1 : w1.heap.size + 1 < w11.heap.size := by omega
            have hs11_2 : w3.heap.size < w11.heap.size := by omega
            have hs11_3 : w8.heap.size < w11.heap.size := by omega
            have kb11_0_0 : w11.cell? ⟨w1.heap.size, 0, none⟩ = some (.int .i64 p) := by go_simp
            have kb11_0_1 : w11.cell? ⟨w1.heap.size, 1, none⟩ = some (.int .i64 q) := by go_simp
            have kb11_0_2 : w11.cell? ⟨w1.heap.size, 2, none⟩ = some (.slice a2 L.length c2) := by go_simp
            have kb11_1_0 : w11.cell? ⟨w1.heap.size + 1, 0, none⟩ = some (.int .i64 k) := by go_simp
            have kb11_1_1 : w11.cell? ⟨w1.heap.size + 1, 1, none⟩ = some (.int .i64 x) := by go_simp
            have kb11_1_2 : w11.cell? ⟨w1.heap.size + 1, 2, none⟩ = some (.int .i64 y) := by go_simp
            have kb11_2_0 : w11.cell? ⟨w3.heap.size, 0, none⟩ = some (.int .i64 rp) := by go_simp
            have kb11_2_1 : w11.cell? ⟨w3.heap.size, 1, none⟩ = some (.int .i64 rq) := by go_simp
            have kb11_2_2 : w11.cell? ⟨w3.heap.size, 2, none⟩ = some (.slice a3 R.length c3) := by go_simp
            have kb11_3_0 : w11.cell? ⟨w8.heap.size, 0, none⟩ = some (.int .i64 p) := by go_simp
            have kb11_3_1 : w11.cell? ⟨w8.heap.size, 1, none⟩ = some (.int .i64 q) := by go_simp
            have kb11_3_2 : w11.cell? ⟨w8.heap.size, 2, none⟩ = some (.slice a5 L.length c5) := by go_simp
            have HB11 := Lib.hid (HB10.out.trans (hN11.mono (by first | exact Nat.le_refl _ | omega)))
            have HR11_d := Lib.hid (HR10_d.out.below hN11 (by first | exact Nat.le_refl _ | omega))
            have HR11_x := Lib.hid (HR10_x.out.below hN11 (by first | exact Nat.le_refl _ | omega))
            have HR11_b := Lib.hid (HR10_b.out.below hN11 (by first | exact Nat.le_refl _ | omega))
            clear hc11 hf11 hb11 hN11 hz11
            go_wp2_with fail
            refine (implOk_is _ _ rp rq R _ _ HR11_x.out hRn true HR.out).mono ?_
            rintro e w12 ⟨rfl, hb12⟩
            obtain ⟨hc12, hf12⟩ := bcell hb12
            have hz12 := hb12.size
            try simp at hz12
            have hN12 : Below w11.heap.size w11 w12 := by
              refine Below.trans ?_ (hb12.mono (by first | omega | (simp <;> omega)))
              (repeat (first | exact Below.refl _ _ | refine Below.setCell ?_ (by first | omega | (simp <;> omega)) _ | refine Below.alloc ?_ (by first | omega | (simp <;> omega)) _ | refine Below.drew ?_))
            have hn12 := hN12.size
            have hs12_0 : w1.heap.size < w12.heap.size := by omega
            have hs12_1 : w1.heap.size + 1 < w12.heap.size := by omega
            have hs12_2 : w3.heap.size < w12.heap.size := by omega
            have hs12_3 : w8.heap.size < w12.heap.size := by omega
            have kb12_0_0 : w12.cell? ⟨w1.heap.size, 0, none⟩ = some (.int .i64 p) := by go_simp
            have kb12_0_1 : w12.cell? ⟨w1.heap.size, 1, none⟩ = some (.int .i64 q) := by go_simp
            have kb12_0_2 : w12.cell? ⟨w1.heap.size, 2, none⟩ = some (.slice a2 L.length c2) := by go_simp
            have kb12_1_0 : w12.cell? ⟨w1.heap.size + 1, 0, none⟩ = some (.int .i64 k) := by go_simp
            have kb12_1_1 : w12.cell? ⟨w1.heap.size + 1, 1, none⟩ = some (.int .i64 x) := by go_simp
            have kb12_1_2 : w12.cell? ⟨w1.heap.size + 1, 2, none⟩ = some (.int .i64 y) := by go_simp
            have kb12_2_0 : w12.cell? ⟨w3.heap.size, 0, none⟩ = some (.int .i64 rp) := by go_simp
            have kb12_2_1 : w12.cell? ⟨w3.heap.size, 1, none⟩ = some (.int .i64 rq) := by go_simp
            have kb12_2_2 : w12.cell? ⟨w3.heap.size, 2, none⟩ = some (.slice a3 R.length c3) := by go_simp
            have kb12_3_0 : w12.cell? ⟨w8.heap.size, 0, none⟩ = some (.int .i64 p) := by go_simp
            have kb12_3_1 : w12.cell? ⟨w8.heap.size, 1, none⟩ = some (.int .i64 q) := by go_simp
            have kb12_3_2 : w12.cell? ⟨w8.heap.size, 2, none⟩ = some (.slice a5 L.length c5) := by go_simp
            have HB12 := Lib.hid (HB11.out.trans (hN12.mono (by first | exact Nat.le_refl _ | omega)))
            have HR12_d := Lib.hid (HR11_d.out.below hN12 (by first | exact Nat.le_refl _ | omega))
            have HR12_x := Lib.hid (HR11_x.out.below hN12 (by first | exact Nat.le_refl _ | omega))
            have HR12_b := Lib.hid (HR11_b.out.below hN12 (by first | exact Nat.le_refl _ | omega))
            clear hc12 hf12 hb12 hN12 hz12
            go_wp2_with fail
            refine (sameDesk_yes _ _ _ _ p q _ _ L _ HR12_b.out HR12_d.out hn).mono ?_
            rintro e w13 ⟨rfl, hb13⟩
            obtain ⟨hc13, hf13⟩ := bcell hb13
            have hz13 := hb13.size
            try simp at hz13
            have hN13 : Below w12.heap.size w12 w13 := by
              refine Below.trans ?_ (hb13.mono (by first | omega | (simp <;> omega)))
              (repeat (first | exact Below.refl _ _ | refine Below.setCell ?_ (by first | omega | (simp <;> omega)) _ | refine Below.alloc ?_ (by first | omega | (simp <;> omega)) _ | refine Below.drew ?_))
            have hn13 := hN13.size
            have hs13_0 : w1.heap.size < w13.heap.size := by omega
            have hs13_1 : w1.heap.size + 1 < w13.heap.size := by omega
            have hs13_2 : w3.heap.size < w13.heap.size := by omega
            have hs13_3 : w8.heap.size < w13.heap.size := by omega
            have kb13_0_0 : w13.cell? ⟨w1.heap.size, 0, none⟩ = some (.int .i64 p) := by go_simp
            have kb13_0_1 : w13.cell? ⟨w1.heap.size, 1, none⟩ = some (.int .i64 q) := by go_simp
            have kb13_0_2 : w13.cell? ⟨w1.heap.size, 2, none⟩ = some (.slice a2 L.length c2) := by go_simp
            have kb13_1_0 : w13.cell? ⟨w1.heap.size + 1, 0, none⟩ = some (.int .i64 k) := by go_simp
            have kb13_1_1 : w13.cell? ⟨w1.heap.size + 1, 1, none⟩ = some (.int .i64 x) := by go_simp
            have kb13_1_2 : w13.cell? ⟨w1.heap.size + 1, 2, none⟩ = some (.int .i64 y) := by go_simp
            have kb13_2_0 : w13.cell? ⟨w3.heap.size, 0, none⟩ = some (.int .i64 rp) := by go_simp
            have kb13_2_1 : w13.cell? ⟨w3.heap.size, 1, none⟩ = some (.int .i64 rq) := by go_simp
            have kb13_2_2 : w13.cell? ⟨w3.heap.size, 2, none⟩ = some (.slice a3 R.length c3) := by go_simp
            have kb13_3_0 : w13.cell? ⟨w8.heap.size, 0, none⟩ = some (.int .i64 p) := by go_simp
            have kb13_3_1 : w13.cell? ⟨w8.heap.size, 1, none⟩ = some (.int .i64 q) := by go_simp
            have kb13_3_2 : w13.cell? ⟨w8.heap.size, 2, none⟩ = some (.slice a5 L.length c5) := by go_simp
            have HB13 := Lib.hid (HB12.out.trans (hN13.mono (by first | exact Nat.le_refl _ | omega)))
            have HR13_d := Lib.hid (HR12_d.out.below hN13 (by first | exact Nat.le_refl _ | omega))
            have HR13_x := Lib.hid (HR12_x.out.below hN13 (by first | exact Nat.le_refl _ | omega))
            have HR13_b := Lib.hid (HR12_b.out.below hN13 (by first | exact Nat.le_refl _ | omega))
            clear hc13 hf13 hb13 hN13 hz13
            go_wp2_with fail
            refine (alive_any _).mono ?_
            rintro e w14 ⟨rfl, hb14⟩
            obtain ⟨hc14, hf14⟩ := bcell hb14
            have hz14 := hb14.size
            try simp at hz14
            have hN14 : Below w13.heap.size w13 w14 := by
              refine Below.trans ?_ (hb14.mono (by first | omega | (simp <;> omega)))
              (repeat (first | exact Below.refl _ _ | refine Below.setCell ?_ (by first | omega | (simp <;> omega)) _ | refine Below.alloc ?_ (by first | omega | (simp <;> omega)) _ | refine Below.drew ?_))
            have hn14 := hN14.size
            have hs14_0 : w1.heap.size < w14.heap.size := by omega
            have hs14_1 : w1.heap.size + 1 < w14.heap.size := by omega
            have hs14_2 : w3.heap.size < w14.heap.size := by omega
            have hs14_3 : w8.heap.size < w14.heap.size := by omega
            have kb14_0_0 : w14.cell? ⟨w1.heap.size, 0, none⟩ = some (.int .i64 p) := by go_simp
            have kb14_0_1 : w14.cell? ⟨w1.heap.size, 1, none⟩ = some (.int .i64 q) := by go_simp
            have kb14_0_2 : w14.cell? ⟨w1.heap.size, 2, none⟩ = some (.slice a2 L.length c2) := by go_simp
            have kb14_1_0 : w14.cell? ⟨w1.heap.size + 1, 0, none⟩ = some (.int .i64 k) := by go_simp
            have kb14_1_1 : w14.cell? ⟨w1.heap.size + 1, 1, none⟩ = some (.int .i64 x) := by go_simp
            have kb14_1_2 : w14.cell? ⟨w1.heap.size + 1, 2, none⟩ = some (.int .i64 y) := by go_simp
            have kb14_2_0 : w14.cell? ⟨w3.heap.size, 0, none⟩ = some (.int .i64 rp) := by go_simp
            have kb14_2_1 : w14.cell? ⟨w3.heap.size, 1, none⟩ = some (.int .i64 rq) := by go_simp
            have kb14_2_2 : w14.cell? ⟨w3.heap.size, 2, none⟩ = some (.slice a3 R.length c3) := by go_simp
            have kb14_3_0 : w14.cell? ⟨w8.heap.size, 0, none⟩ = some (.int .i64 p) := by go_simp
            have kb14_3_1 : w14.cell? ⟨w8.heap.size, 1, none⟩ = some (.int .i64 q) := by go_simp
            have kb14_3_2 : w14.cell? ⟨w8.heap.size, 2, none⟩ = some (.slice a5 L.length c5) := by go_simp
            have HB14 := Lib.hid (HB13.out.trans (hN14.mono (by first | exact Nat.le_refl _ | omega)))
            have HR14_d := Lib.hid (HR13_d.out.below hN14 (by first | exact Nat.le_refl _ | omega))
            have HR14_x := Lib.hid (HR13_x.out.below hN14 (by first | exact Nat.le_refl _ | omega))
            have HR14_b := Lib.hid (HR13_b.out.below hN14 (by first | exact Nat.le_refl _ | omega))
            clear hc14 hf14 hb14 hN14 hz14
            go_wp2
            go_ret
            exact ⟨rfl, HB14.out⟩
end Go.Proofs.Ytigcomhhgfgmgaa
namespace Go.Proofs.Ytigcomhhgfgmgaa
open Go.RowKit
theorem c3_alloc {w : World} {b : Nat} {u0 u1 u2 : Value} (h : C3 w b u0 u1 u2) (o : Obj) : C3 (w.alloc o) b u0 u1 u2 := by
  have hb := h.lt
  obtain ⟨⟨h0, h1, h2⟩, f0, f1, f2⟩ := h
  have hB := (Below.refl w.heap.size w).alloc (Nat.le_refl _) o
  exact ⟨⟨(hB.cell (p := ⟨b, 0, none⟩) hb).trans h0, (hB.cell (p := ⟨b, 1, none⟩) hb).trans h1, (hB.cell (p := ⟨b, 2, none⟩) hb).trans h2⟩, (hB.frozen (p := ⟨b, 0, none⟩) hb).trans f0, (hB.frozen (p := ⟨b, 1, none⟩) hb).trans f1, (hB.frozen (p := ⟨b, 2, none⟩) hb).trans f2⟩
/-- What is not of one's own blocks, from one on, stands as it stood. -/
def GrowF (B : Nat) (W W' : World) : Prop := W.heap.size ≤ W'.heap.size ∧ ∀ g, B ≤ g → g < W.heap.size → W'.heap[g]? = W.heap[g]?
theorem growF_refl (B : Nat) (W : World) : GrowF B W W := ⟨Nat.le_refl _, fun _ _ _ => rfl⟩
theorem growF_of {B R : Nat} {W W' : World} (hg : W.grownBy W' (some R)) (hR : R < B) : GrowF B W W' := ⟨hg.size, fun g h1 h2 => hg.block g h2 (fun e => by injection e; omega)⟩
theorem growF_alloc (B : Nat) (W : World) (o : Obj) : GrowF B W (W.alloc o) := ⟨by simp, fun g _ h => ((Below.refl W.heap.size W).alloc (Nat.le_refl _) o).block g h⟩
theorem growF_set3 {B b : Nat} (W : World) (hb : b < B) (v0 v1 v2 : Value) : GrowF B W (set3 W b v0 v1 v2) :=
  ⟨by rw [set3_size]; exact Nat.le_refl _, fun g h1 _ => by unfold set3; rw [Below.heap_setCell _ _ _ _ (by show g ≠ b; omega), Below.heap_setCell _ _ _ _ (by show g ≠ b; omega), Below.heap_setCell _ _ _ _ (by show g ≠ b; omega)]⟩
/-- Deeds that have been drawn. -/
def DeedsAt (B n : Nat) (v : Value) (W : World) : Prop := ∃ (b : Option Addr) (d : Nat) (X : List DeedN) (C : Nat), v = .slice b X.length d ∧ IsDeeds B C W (.slice b X.length d) X ∧ X.length ≤ n
theorem DeedsAt.grow {B n : Nat} {v : Value} {W W' : World} (h : DeedsAt B n v W) (hg : GrowF B W W') : DeedsAt B n v W' := by
  obtain ⟨b, d, X, C, e, hX, hn⟩ := h
  have hC : C ≤ W.heap.size := by obtain ⟨_, _, _, hC, _⟩ := id hX; exact hC
  exact ⟨b, d, X, C, e, hX.far hg.1 (fun g h1 h2 => hg.2 g h1 (by omega)), hn⟩
theorem deeds_made (W : World) (B n : Nat) (t : TypeId) (hB : B ≤ W.heap.size) : DeedsAt B n (.slice (some ⟨W.heap.size, 0, none⟩) n n) (W.alloc (.cells (madeCells #[.int .i64 0, .int .i64 0, .int .i64 0] (n * 3)) t)) := by
  have hX : (List.replicate n (⟨0, 0, 0⟩ : DeedN)).length = n := List.length_replicate
  refine ⟨some ⟨W.heap.size, 0, none⟩, n, List.replicate n ⟨0, 0, 0⟩, W.heap.size + 1, by rw [hX], ?_, by rw [hX]; exact Nat.le_refl _⟩
  refine ⟨_, n, rfl, by simp, .inr ⟨W.heap.size, 0, rfl, hB, ⟨by omega, by rw [hX]; exact Nat.le_refl _⟩, fun i p hi => ?_, fun i hi => ?_⟩⟩
  · obtain ⟨hin, rfl⟩ := List.getElem?_eq_some_iff.1 hi
    rw [hX] at hin
    rw [List.getElem_replicate, Nat.zero_add]
    exact ⟨(World.cell?_alloc_mark _ _ _ _ _).trans (made_at3 _ _ (by omega)), (World.cell?_alloc_mark _ _ _ _ _).trans (made_at3 _ _ (by omega)), (World.cell?_alloc_mark _ _ _ _ _).trans (made_at3 _ _ (by omega))⟩
  · unfold World.frozen?; rw [heap_alloc_new]; simp
def runP4 (B : Nat) (p q : Int) (a2 : Option Addr) (c2 : Nat) (L : List (Int × Int)) (j : Nat) (v : Value) (W : World) : Prop :=
  match j with
  | 0 => v = .agg #[.int .i64 p, .int .i64 q, .slice a2 L.length c2]
  | 2 => True
  | _ => DeedsAt B 41 v W
theorem runP4_mono (B : Nat) (p q : Int) (a2 : Option Addr) (c2 : Nat) (L : List (Int × Int)) (j : Nat) (v : Value) (W W' : World) (hg : GrowF B W W') (h : runP4 B p q a2 c2 L j v W) : runP4 B p q a2 c2 L j v W' := by
  unfold runP4 at *
  split at h
  · exact h
  · exact h
  · exact h.grow hg
def runP5 (B : Nat) (p q : Int) (a2 : Option Addr) (c2 : Nat) (L : List (Int × Int)) (R j : Nat) (v : Value) (W : World) : Prop :=
  match j with
  | 0 => v = .agg #[.int .i64 p, .int .i64 q, .slice a2 L.length c2]
  | 1 => v = .pointer (some ⟨R, 0, none⟩)
  | 3 => True
  | _ => DeedsAt B 41 v W
theorem runP5_mono (B : Nat) (p q : Int) (a2 : Option Addr) (c2 : Nat) (L : List (Int × Int)) (R j : Nat) (v : Value) (W W' : World) (hg : GrowF B W W') (h : runP5 B p q a2 c2 L R j v W) : runP5 B p q a2 c2 L R j v W' := by
  unfold runP5 at *
  split at h
  · exact h
  · exact h
  · exact h
  · exact h.grow hg
theorem arr17 (t : Array Value) (h : t.size = 17) : t = #[t.getD 0 undef, t.getD 1 undef, t.getD 2 undef, t.getD 3 undef, t.getD 4 undef, t.getD 5 undef, t.getD 6 undef, t.getD 7 undef, t.getD 8 undef, t.getD 9 undef, t.getD 10 undef, t.getD 11 undef, t.getD 12 undef, t.getD 13 undef, t.getD 14 undef, t.getD 15 undef, t.getD 16 undef] := by
  apply Array.ext
  · simpa using h
  · intro i h1 h2
    have h3 : i < 17 := by omega
    rcases (show i = 0 ∨ i = 1 ∨ i = 2 ∨ i = 3 ∨ i = 4 ∨ i = 5 ∨ i = 6 ∨ i = 7 ∨ i = 8 ∨ i = 9 ∨ i = 10 ∨ i = 11 ∨ i = 12 ∨ i = 13 ∨ i = 14 ∨ i = 15 ∨ i = 16 by omega) with rfl | rfl | rfl | rfl | rfl | rfl | rfl | rfl | rfl | rfl | rfl | rfl | rfl | rfl | rfl | rfl | rfl <;> simp [Array.getD, h]
theorem act17 (t : Array Value) (h : t.size = 17) (v2 v3 : Value) (h2 : t.getD 2 undef = v2) (h3 : t.getD 3 undef = v3) : ∃ u0 u1 u4 u5 u6 u7 u8 u9 u10 u11 u12 u13 u14 u15 u16 : Value, t = #[u0, u1, v2, v3, u4, u5, u6, u7, u8, u9, u10, u11, u12, u13, u14, u15, u16] :=
  ⟨_, _, _, _, _, _, _, _, _, _, _, _, _, _, _, by rw [← h2, ← h3]; exact arr17 t h⟩
set_option linter.unusedSimpArgs false in
set_option maxRecDepth 100000 in
set_option maxHeartbeats 8000000 in
theorem drawDeskRun_any (w : World) (a : Option Addr) (len cap : Nat) (zs : List Int) (h : IsRow w a len cap zs) :
    Calls Try.prog 25 #[.slice a len cap] w (DeskDeedsSeen w) := by
  have hen : ∀ (args : Array Value) (w : World), (callFunc 53 args).run Try.prog w = .ok (.enter 53 args) w := enters_of Try.func53 (by kernel_rfl) rfl
  obtain ⟨i0, hi0, hz0, hzs1, hz2'⟩ := info_parts3 info_deed
  have hmk := fun n hn W => run_make_three (P := Try.prog) 44 38 i0 Try.underlying44 hi0 hz0 hzs1 hz2' n hn W
  have HMK := Lib.hid hmk
  clear hmk hi0 hz0 hzs1 hz2'
  have HEN := Lib.hid hen
  clear hen
  go_enter Try.func25, Try.ntmps25
  go_wp2_with fail
  refine (open_any _ _ _ _ zs (h.below ((Below.refl _ _).alloc (Nat.le_refl _) _))).mono ?_
  rintro e w1 ⟨rfl, hR1, hh1, hzR1⟩
  try simp only [World.size_alloc] at hzR1
  try simp only [World.size_alloc] at hR1
  obtain ⟨hc1, hf1⟩ := bcell hh1
  have hz1 := hh1.size
  try simp only [World.size_alloc] at hz1
  have hz1_0 : w.heap.size < w1.heap.size := by omega
  have kb1_0_0 : w1.cell? ⟨w.heap.size, 0, none⟩ = some (.int .i64 0) := by go_simp
  have kf1_0_0 : w1.frozen? ⟨w.heap.size, 0, none⟩ = false := by go_simp
  have kb1_0_1 : w1.cell? ⟨w.heap.size, 1, none⟩ = some (.int .i64 0) := by go_simp
  have kf1_0_1 : w1.frozen? ⟨w.heap.size, 1, none⟩ = false := by go_simp
  have kb1_0_2 : w1.cell? ⟨w.heap.size, 2, none⟩ = some (.slice none 0 0) := by go_simp
  have kf1_0_2 : w1.frozen? ⟨w.heap.size, 2, none⟩ = false := by go_simp
  clear hc1 hf1
  go_wp2_with fail
  refine (l20Desk_any (w.heap.size + 1) 0 12 _ hR1 (by omega) (by omega)).mono ?_
  rintro e w2 ⟨p, q, a2, c2, L, rfl, hI2, hL2, hR2, hh2⟩
  obtain ⟨hc2, hf2⟩ := gcell hh2
  have hz2 := hh2.size
  try simp only [World.size_alloc] at hz2
  have hz2_0 : w.heap.size < w2.heap.size := by omega
  have hn2_0 : ¬ w.heap.size = (w.heap.size + 1) := by omega
  have kb2_0_0 : w2.cell? ⟨w.heap.size, 0, none⟩ = some (.int .i64 0) := by go_simp
  have kf2_0_0 : w2.frozen? ⟨w.heap.size, 0, none⟩ = false := by go_simp
  have kb2_0_1 : w2.cell? ⟨w.heap.size, 1, none⟩ = some (.int .i64 0) := by go_simp
  have kf2_0_1 : w2.frozen? ⟨w.heap.size, 1, none⟩ = false := by go_simp
  have kb2_0_2 : w2.cell? ⟨w.heap.size, 2, none⟩ = some (.slice none 0 0) := by go_simp
  have kf2_0_2 : w2.frozen? ⟨w.heap.size, 2, none⟩ = false := by go_simp
  clear hc2 hf2
  have hRB : w.heap.size + 1 < w1.heap.size := by omega
  have hTA : w2.heap.size ≠ w.heap.size := by omega
  have hTR : w2.heap.size ≠ w.heap.size + 1 := by omega
  have kc3 : C3 (w2.alloc (.cells #[.int .i64 p, .int .i64 q, .slice a2 L.length c2] 27)) w2.heap.size (.int .i64 p) (.int .i64 q) (.slice a2 L.length c2) := ⟨⟨by go_simp, by go_simp, by go_simp⟩, by go_simp, by go_simp, by go_simp⟩
  have kd3 : C3 (w2.alloc (.cells #[.int .i64 p, .int .i64 q, .slice a2 L.length c2] 27)) w.heap.size (.int .i64 0) (.int .i64 0) (.slice none 0 0) := c3_alloc ⟨⟨by go_simp, by go_simp, by go_simp⟩, by go_simp, by go_simp, by go_simp⟩ _
  have hB3 : Below w.heap.size w (w2.alloc (.cells #[.int .i64 p, .int .i64 q, .slice a2 L.length c2] 27)) := by (repeat (first | exact Below.refl _ _ | refine Below.setCell ?_ (by first | omega | (simp <;> omega)) _ | refine Below.alloc ?_ (by first | omega | (simp <;> omega)) _ | refine Below.drew ?_ | refine Below.trans ?_ (Below.mono (by assumption) (by first | omega | (simp <;> omega))) | refine Below.grown ?_ (by assumption) (by first | omega | (simp <;> omega)) (fun k e => by cases e; first | omega | (simp <;> omega))))
  go_wp2_with fail
  refine (odd_any (w.heap.size + 1) (0 + 40) 30 _ (hR2.alloc _) (by omega) (by omega)).mono ?_
  rintro e w4 ⟨bb, rfl, hR4, hh4⟩
  have hB4 : Below w.heap.size w w4 := hB3.grown hh4 hB3.size (fun k e => by cases e; omega)
  have hI4 := pairs_grows (hI2.allocd (.cells #[.int .i64 p, .int .i64 q, .slice a2 L.length c2] 27)) hh4 hRB
  have kc4 := kc3.grow hh4 hTR
  have kd4 := kd3.grow hh4 (by omega)
  have hz4 := hh4.size
  simp at hz4
  have hmk := HMK.out
  have hen := HEN.out
  clear hB3 hh4 kc3 kd3 hI2 hR2 hh2 hh1 hR1 HMK HEN
  cases bb with
  | true =>
    go_wp2_with fail
    rename_i K hK
    refine wp_region_stores (PP := runP4 w1.heap.size p q a2 c2 L) (Grow := GrowF w1.heap.size) (G := fun l W => BackG w 9 2 w1.heap.size w2.heap.size (w.heap.size + 1) w2.heap.size w.heap.size 41 31 p q a2 c2 L l W) (by kernel_rfl) (dis_of2 (by kernel_rfl)) (b_of (by kernel_rfl)) (back_of (by kernel_rfl)) (fun j u W1 W2 hg hp => runP4_mono w1.heap.size p q a2 c2 L j u W1 W2 hg hp) ⟨Below.drew hB4, rd_drewD (hR4.mono (by omega)), hI4.drew, kc4, 0, 0, none, 0, 0, kd4, fun e => by simp [Array.getD_eq_getD_getElem?, Array.getElem?_replicate] at e⟩ ?step ?fin
    case step =>
      intro i o hi listed a w5 hS hG hall hl
      have hC5 : w1.heap.size ≤ w5.heap.size := by
        obtain ⟨_, _, hI, hT, _⟩ := id hG
        have := hT.lt
        omega
      have hi4 : i < 4 := (Array.getElem?_eq_some_iff.1 hi).1
      rcases (show i = 0 ∨ i = 1 ∨ i = 2 ∨ i = 3 by omega) with rfl | rfl | rfl | rfl
      · obtain rfl := Option.some.inj hi
        have e5 : a.eval (.tmp 5) = .pointer (some ⟨w2.heap.size, 0, none⟩) := hS.2.2.1 5 (noDst_of (by kernel_rfl))
        obtain ⟨⟨c0, c1, c2'⟩, _⟩ := hG.2.2.2.1
        refine op_value (v := .agg #[.int .i64 p, .int .i64 q, .slice a2 L.length c2]) (w' := w5) rfl rfl (by intro ev ht hc hf; rw [← ht] at e5; simp [execOp, hc, hf, e5, go_sem, c0, c1, c2']; try go_simp) ⟨.inl ⟨_, 12, rfl, rfl, rfl⟩, growF_refl _ _, hG.same (by decide) (by decide)⟩
      · obtain rfl := Option.some.inj hi
        have hm := hmk 41 (by omega) w5
        rw [show ((41 : Nat) : Int) = 41 from rfl] at hm
        refine op_value (v := .slice (some ⟨w5.heap.size, 0, none⟩) 41 41) (w' := w5.alloc (.cells (madeCells #[.int .i64 0, .int .i64 0, .int .i64 0] (41 * 3)) 38)) rfl rfl (by intro ev ht hc hf; simp [execOp, ht, hc, hf, hm, go_sem]) ⟨.inl ⟨_, 13, rfl, rfl, deeds_made w5 _ 41 _ hC5⟩, growF_alloc _ _ _, ?_⟩
        obtain ⟨hb, hr, hI, ht, x, y, a6, n6, c6, hA, hl'⟩ := hG
        exact ⟨hb.alloc hb.size _, by rw [indD_other (by decide)]; exact hr.alloc _, hI.allocd _, c3_alloc ht _, x, y, a6, n6, c6, c3_alloc hA _, fun e => hl' (by rwa [getD_set_other _ (by decide)] at e)⟩
      · obtain rfl := Option.some.inj hi
        have P0 := hS.2.2.2 0 _ 12 rfl rfl (hall { on := 0, ground := .data } (by simp) rfl)
        replace P0 : a.eval (.tmp 12) = .agg #[.int .i64 p, .int .i64 q, .slice a2 L.length c2] := P0
        have e2 : a.eval (.tmp 2) = .pointer (some ⟨w.heap.size, 0, none⟩) := hS.2.2.1 2 (noDst_of (by kernel_rfl))
        obtain ⟨_, _, _, _, x, y, a6, n6, c6, hA, _⟩ := id hG
        obtain ⟨⟨c0, c1, c2'⟩, f0, f1, f2⟩ := id hA
        refine op_store (w' := set3 w5 w.heap.size (.int .i64 p) (.int .i64 q) (.slice a2 L.length c2)) rfl rfl rfl (by intro ev ht hc hf; rw [← ht] at P0 e2; unfold set3; simp [execOp, hc, hf, P0, e2, go_sem, c0, c1, c2', f0, f1, f2]; try go_simp) ⟨.inr ⟨rfl, rfl⟩, growF_set3 _ (by omega) _ _ _, hG.desk (by decide) (by omega) (Nat.le_refl _) hTA (by omega)⟩
      · obtain rfl := Option.some.inj hi
        have P2 := hS.2.2.2 1 _ 13 rfl rfl (hall { on := 1, ground := .data } (by simp) rfl)
        obtain ⟨b6, d6, X, C6, e6, hX, hn⟩ := id P2
        refine op_value (v := .slice b6 X.length d6) (w' := w5) rfl rfl (by intro ev ht hc hf; rw [← ht] at e6; simp [execOp, hc, hf, e6, go_sem]) ⟨.inl ⟨_, 3, rfl, rfl, ⟨b6, d6, X, C6, rfl, hX, hn⟩⟩, growF_refl _ _, hG.same (by decide) (by decide)⟩
    case fin =>
      intro listed a w5 hall hS hG
      have e2 : a.eval (.tmp 2) = .pointer (some ⟨w.heap.size, 0, none⟩) := hS.2.2.1 2 (noDst_of (by kernel_rfl))
      obtain ⟨b6, d6, X, C6, e3, hX, hX41⟩ := hS.2.2.2 3 _ 3 rfl rfl (hall 3 (by decide))
      have hd : a.defers = [] := hS.1
      have hsz : a.tmps.size = 17 := hS.2.1
      obtain ⟨hB, _, hI, _, x, y, a6, n6, c6, hA, hl3⟩ := hG
      obtain ⟨rfl, rfl, hsl⟩ := hl3 (hall 2 (by decide))
      rw [hsl] at hA
      have hC : w2.heap.size ≤ w5.heap.size := by obtain ⟨_, _, _, hC, _⟩ := id hI; exact hC
      have hC6 : C6 ≤ w5.heap.size := by obtain ⟨_, _, _, hC, _⟩ := id hX; exact hC
      obtain ⟨t, d⟩ := a
      clear hS hall hsl hl3
      dsimp only at hd hsz
      subst hd
      obtain ⟨u0, u1, u4, u5, u6, u7, u8, u9, u10, u11, u12, u13, u14, u15, u16, rfl⟩ := act17 t hsz _ _ e2 e3
      clear e2 e3 hsz hen
      refine hK _ _ ?_
      clear hK K
      obtain ⟨⟨c0, c1, c2'⟩, f0, f1, f2⟩ := hA
      go_wp2_with fail
      refine bodyPost_ret (v := .tuple #[.agg #[.int .i64 x, .int .i64 y, .slice a2 L.length c2], .slice b6 X.length d6]) (by simp [results, Try.results25, go_sem]; go_simp) rfl ⟨x, y, a2, c2, L, b6, d6, X, rfl, hI.mono (by omega) hC (Nat.le_refl _), hL2, hX.mono (by omega) hC6 (Nat.le_refl _), hX41, hB⟩
  | false =>
    go_wp2_with fail
    rename_i K hK
    refine wp_region_stores (PP := runP5 w1.heap.size p q a2 c2 L (w.heap.size + 1)) (Grow := GrowF w1.heap.size) (G := fun l W => BackG w 2 3 w1.heap.size w2.heap.size (w.heap.size + 1) w2.heap.size w.heap.size 41 31 p q a2 c2 L l W) (by kernel_rfl) (dis_of2 (by kernel_rfl)) (b_of (by kernel_rfl)) (back_of (by kernel_rfl)) (fun j u W1 W2 hg hp => runP5_mono w1.heap.size p q a2 c2 L (w.heap.size + 1) j u W1 W2 hg hp) ⟨Below.drew hB4, rd_drewD (hR4.mono (by omega)), hI4.drew, kc4, 0, 0, none, 0, 0, kd4, fun e => by simp [Array.getD_eq_getD_getElem?, Array.getElem?_replicate] at e⟩ ?step ?fin
    case step =>
      intro i o hi listed a w5 hS hG hall hl
      have hC5 : w1.heap.size ≤ w5.heap.size := by
        obtain ⟨_, _, hI, hT, _⟩ := id hG
        have := hT.lt
        omega
      have hi5 : i < 5 := (Array.getElem?_eq_some_iff.1 hi).1
      rcases (show i = 0 ∨ i = 1 ∨ i = 2 ∨ i = 3 ∨ i = 4 by omega) with rfl | rfl | rfl | rfl | rfl
      · obtain rfl := Option.some.inj hi
        have e5 : a.eval (.tmp 5) = .pointer (some ⟨w2.heap.size, 0, none⟩) := hS.2.2.1 5 (noDst_of (by kernel_rfl))
        obtain ⟨⟨c0, c1, c2'⟩, _⟩ := hG.2.2.2.1
        refine op_value (v := .agg #[.int .i64 p, .int .i64 q, .slice a2 L.length c2]) (w' := w5) rfl rfl (by intro ev ht hc hf; rw [← ht] at e5; simp [execOp, hc, hf, e5, go_sem, c0, c1, c2']; try go_simp) ⟨.inl ⟨_, 14, rfl, rfl, rfl⟩, growF_refl _ _, hG.same (by decide) (by decide)⟩
      · obtain rfl := Option.some.inj hi
        have e4 : a.eval (.tmp 4) = .pointer (some ⟨(w.heap.size + 1), 0, none⟩) := hS.2.2.1 4 (noDst_of (by kernel_rfl))
        refine op_value (v := .pointer (some ⟨(w.heap.size + 1), 0, none⟩)) (w' := w5) rfl rfl (by intro ev ht hc hf; rw [← ht] at e4; simp [execOp, hc, hf, e4, go_sem]) ⟨.inl ⟨_, 15, rfl, rfl, rfl⟩, growF_refl _ _, hG.same (by decide) (by decide)⟩
      · obtain rfl := Option.some.inj hi
        have P1 := hS.2.2.2 1 _ 15 rfl rfl (hall { on := 1, ground := .data } (by simp) rfl)
        replace P1 : a.eval (.tmp 15) = .pointer (some ⟨(w.heap.size + 1), 0, none⟩) := P1
        refine op_enter rfl rfl (f := 53) (args := #[.pointer (some ⟨(w.heap.size + 1), 0, none⟩)]) (w' := w5) (by intro ev ht hc hf; rw [← ht] at P1; simp [execOp, hc, hf, P1, go_sem, hen]) ?_
        refine (l20Deeds_any (w.heap.size + 1) (41 + 31 * indD listed 2) w5 hG.2.1 (by have := indD_le listed 2; omega)).mono ?_
        rintro e w6 ⟨b6, d6, X, rfl, hX, hn, hR, hg⟩
        exact ⟨_, rfl, .inl ⟨_, 16, rfl, rfl, ⟨b6, d6, X, w6.heap.size, rfl, hX.mono hC5 (Nat.le_refl _) (Nat.le_refl _), by omega⟩⟩, growF_of hg hRB, hG.call hl (by decide) hR hg hRB (by omega) hTR (by omega)⟩
      · obtain rfl := Option.some.inj hi
        have P0 := hS.2.2.2 0 _ 14 rfl rfl (hall { on := 0, ground := .data } (by simp) rfl)
        replace P0 : a.eval (.tmp 14) = .agg #[.int .i64 p, .int .i64 q, .slice a2 L.length c2] := P0
        have e2 : a.eval (.tmp 2) = .pointer (some ⟨w.heap.size, 0, none⟩) := hS.2.2.1 2 (noDst_of (by kernel_rfl))
        obtain ⟨_, _, _, _, x, y, a6, n6, c6, hA, _⟩ := id hG
        obtain ⟨⟨c0, c1, c2'⟩, f0, f1, f2⟩ := id hA
        refine op_store (w' := set3 w5 w.heap.size (.int .i64 p) (.int .i64 q) (.slice a2 L.length c2)) rfl rfl rfl (by intro ev ht hc hf; rw [← ht] at P0 e2; unfold set3; simp [execOp, hc, hf, P0, e2, go_sem, c0, c1, c2', f0, f1, f2]; try go_simp) ⟨.inr ⟨rfl, rfl⟩, growF_set3 _ (by omega) _ _ _, hG.desk (by decide) (by omega) (Nat.le_refl _) hTA (by omega)⟩
      · obtain rfl := Option.some.inj hi
        have P2 := hS.2.2.2 2 _ 16 rfl rfl (hall { on := 2, ground := .data } (by simp) rfl)
        obtain ⟨b6, d6, X, C6, e6, hX, hn⟩ := id P2
        refine op_value (v := .slice b6 X.length d6) (w' := w5) rfl rfl (by intro ev ht hc hf; rw [← ht] at e6; simp [execOp, hc, hf, e6, go_sem]) ⟨.inl ⟨_, 3, rfl, rfl, ⟨b6, d6, X, C6, rfl, hX, hn⟩⟩, growF_refl _ _, hG.same (by decide) (by decide)⟩
    case fin =>
      intro listed a w5 hall hS hG
      have e2 : a.eval (.tmp 2) = .pointer (some ⟨w.heap.size, 0, none⟩) := hS.2.2.1 2 (noDst_of (by kernel_rfl))
      obtain ⟨b6, d6, X, C6, e3, hX, hX41⟩ := hS.2.2.2 4 _ 3 rfl rfl (hall 4 (by decide))
      have hd : a.defers = [] := hS.1
      have hsz : a.tmps.size = 17 := hS.2.1
      obtain ⟨hB, _, hI, _, x, y, a6, n6, c6, hA, hl3⟩ := hG
      obtain ⟨rfl, rfl, hsl⟩ := hl3 (hall 3 (by decide))
      rw [hsl] at hA
      have hC : w2.heap.size ≤ w5.heap.size := by obtain ⟨_, _, _, hC, _⟩ := id hI; exact hC
      have hC6 : C6 ≤ w5.heap.size := by obtain ⟨_, _, _, hC, _⟩ := id hX; exact hC
      obtain ⟨t, d⟩ := a
      clear hS hall hsl hl3
      dsimp only at hd hsz
      subst hd
      obtain ⟨u0, u1, u4, u5, u6, u7, u8, u9, u10, u11, u12, u13, u14, u15, u16, rfl⟩ := act17 t hsz _ _ e2 e3
      clear e2 e3 hsz hen
      refine hK _ _ ?_
      clear hK K
      obtain ⟨⟨c0, c1, c2'⟩, f0, f1, f2⟩ := hA
      go_wp2_with fail
      refine bodyPost_ret (v := .tuple #[.agg #[.int .i64 x, .int .i64 y, .slice a2 L.length c2], .slice b6 X.length d6]) (by simp [results, Try.results25, go_sem]; go_simp) rfl ⟨x, y, a2, c2, L, b6, d6, X, rfl, hI.mono (by omega) hC (Nat.le_refl _), hL2, hX.mono (by omega) hC6 (Nat.le_refl _), hX41, hB⟩
end Go.Proofs.Ytigcomhhgfgmgaa
