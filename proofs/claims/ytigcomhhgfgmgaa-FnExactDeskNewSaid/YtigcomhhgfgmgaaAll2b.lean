/- Contracts and laws that the statement's proof stands on, one text behind the other. -/
import Derived.Test.YtigcomhhgfgmgaaAll2a
import Derived.Deep.Cut
import Derived.Deep.DeepCutAuto
import Derived.Deep.RegionHeld3

namespace Go.Proofs.Ytigcomhhgfgmgaa
open Go.RowKit
theorem runR_lenB (d : DeskN) (X : List DeedN) : (runR d X).1.past.length ≤ 8 := by
  by_cases h : deskN d = true ∧ X.length ≤ 40
  · rw [runR_yes h.1 h.2]; exact (deskN_of (runN_desk X h.1)).2.1
  · rw [runR_no h]; simp
theorem Addr.add_zero' (b o : Nat) : (⟨b, o, none⟩ : Addr).add 0 = ⟨b, o, none⟩ := by rw [add_row]; rfl
/-- The first of some deeds, and the rest of them. -/
theorem deeds_take {B C : Nat} {w : World} {a : Option Addr} {c : Nat} {X : List DeedN} (h : IsDeeds B C w (.slice a X.length c) X) (k : Nat) (hk : k ≤ X.length) :
    k ≤ c ∧ ∃ a' c', sliced a 0 k c 3 = .slice a' k c' ∧ IsDeeds B C w (.slice a' k c') (X.take k) := by
  obtain ⟨a', cap', e, hC, hs⟩ := id h
  obtain ⟨rfl, rfl⟩ : a = a' ∧ c = cap' := by simpa using e
  rcases hs with hs | ⟨g, off, ha, h1, h2, hc, hf⟩
  · subst hs
    obtain rfl : k = 0 := by simpa using hk
    exact ⟨Nat.zero_le _, _, _, rfl, ⟨_, _, rfl, hC, .inl rfl⟩⟩
  · subst ha
    have hkc : k ≤ c := Nat.le_trans hk h2.2
    refine ⟨hkc, some ⟨g, off, none⟩, c, ?_, h.take k c hk hkc⟩
    unfold sliced
    split
    · simp
    · simp [Addr.add_zero']
theorem deeds_drop {B C : Nat} {w : World} {a : Option Addr} {c : Nat} {X : List DeedN} (h : IsDeeds B C w (.slice a X.length c) X) (k : Nat) (hk : k ≤ X.length) (hk2 : 0 < X.length → k < X.length) :
    ∃ a' c', sliced a k X.length c 3 = .slice a' (X.length - k) c' ∧ IsDeeds B C w (.slice a' (X.length - k) c') (X.drop k) := by
  obtain ⟨a', cap', e, hC, hs⟩ := id h
  obtain ⟨rfl, rfl⟩ : a = a' ∧ c = cap' := by simpa using e
  rcases hs with hs | ⟨g, off, ha, h1, h2, hc, hf⟩
  · subst hs
    obtain rfl : k = 0 := by simpa using hk
    exact ⟨_, _, rfl, ⟨_, _, rfl, hC, .inl rfl⟩⟩
  · subst ha
    rcases Nat.eq_zero_or_pos X.length with h0 | h0
    · obtain rfl : k = 0 := by omega
      refine ⟨some ⟨g, off, none⟩, c, ?_, ?_⟩
      · unfold sliced
        split
        · simp
        · simp [Addr.add_zero']
      · have e0 : X = [] := List.length_eq_zero_iff.1 h0
        subst e0
        exact ⟨_, _, rfl, hC, .inl rfl⟩
    · have hlt := hk2 h0
      refine ⟨some ⟨g, off + k * 3, none⟩, c - k, ?_, h.drop k (c - k) hlt (by have := h2.2; omega)⟩
      unfold sliced
      rw [if_neg (by have := h2.2; omega)]
      simp [add_row]
/-- In two parts, one after the other, it is the same. -/
theorem runR_parts {d : DeskN} {X : List DeedN} (h : deskN d = true) (h40 : X.length ≤ 40) (k : Nat) : runR d X = ((runR (runR d (X.take k)).1 (X.drop k)).1, (runR d (X.take k)).2 + (runR (runR d (X.take k)).1 (X.drop k)).2) := by
  have h1 : (X.take k).length ≤ 40 := by rw [List.length_take]; omega
  have h2 : (X.drop k).length ≤ 40 := by rw [List.length_drop]; omega
  rw [runR_yes h h40, runR_yes h h1, runR_yes (runN_desk _ h) h2, ← runN_append, List.take_append_drop]
theorem deeds_none (W : World) (a : Option Addr) (c n : Nat) {Y : List DeedN} (hY : Y = []) (hn : n = 0) : IsDeeds W.heap.size W.heap.size W (.slice a n c) Y := by
  subst hY hn; exact ⟨a, c, rfl, Nat.le_refl _, .inl rfl⟩
theorem deeds_len {B C : Nat} {w : World} {a : Option Addr} {n c : Nat} {X : List DeedN} (h : IsDeeds B C w (.slice a n c) X) : n = X.length := by
  obtain ⟨_, _, e, _⟩ := h
  injection e
set_option maxRecDepth 100000 in
set_option maxHeartbeats 4000000 in
theorem fnDeskRun_walk (a : Option Addr) (len cap : Nat) (z : List Int) (w : World) (w0 : IsRow w a len cap z) :
    Calls Try.prog 6 #[.slice a len cap] w fun e w' => e = .returned (.bool true) ∧ Below w.heap.size w w' := by
  by_cases hbig : 1048576 < len
  · go_enter Try.func6, Try.ntmps6
    go_wp2
    go_ret
    exact ⟨rfl, Below.refl _ _⟩
  · have hsm : len ≤ 1048576 := by omega
    go_enter Try.func6, Try.ntmps6
    go_wp2_with fail
    refine (drawDeskRun_any _ _ _ _ z w0).mono ?_
    rintro e w1 ⟨p, q, a2, c2, L, b3, d3, X, rfl, hI, hL, hD, hX, hh1⟩
    have hz1 := hh1.size
    obtain ⟨hc1, hf1⟩ := bcell hh1
    have hn : L.length ≤ 1048600 := by omega
    have hXn : X.length ≤ 1048600 := by omega
    have hJ := fun (W : World) (B C B' C' : Nat) (a : Option Addr) (c : Nat) (b : Option Addr) (d : Nat) (hI : IsPairs B C W (.slice a L.length c) L) (hD : IsDeeds B' C' W (.slice b X.length d) X) => implRun_any B C B' C' p q L X _ _ W hI hn hD hXn
    have hS := fun (W : World) (B C B' C' : Nat) (a : Option Addr) (c : Nat) (b : Option Addr) (d : Nat) (hI : IsPairs B C W (.slice a L.length c) L) (hD : IsDeeds B' C' W (.slice b X.length d) X) => specRun_any B C B' C' p q L X _ _ W hI hn hD hXn
    unfold RanS at hS hJ
    obtain ⟨rp, rq, R, n, hres⟩ : ∃ rp rq R n, runR ⟨(p, q), L⟩ X = (⟨(rp, rq), R⟩, n) := ⟨_, _, _, _, rfl⟩
    have hR8 : R.length ≤ 8 := by have := runR_lenB ⟨(p, q), L⟩ X; rwa [hres] at this
    rw [hres] at hS hJ
    dsimp only at hS hJ
    have hRn : R.length ≤ 1048600 := by omega
    have HS := Lib.hid hS
    have HI := Lib.hid hJ
    have HRES := Lib.hid hres
    clear hS hJ hres
    have HB1 := Lib.hid hh1
    clear hc1 hf1 hh1
    have HR1_p := Lib.hid (hI)
    have HR1_dd := Lib.hid (hD)
    clear hI hD
    go_wp2_with fail
    refine calls_namedD ?_
    intro w2 hw2
    have hN2 : Below w1.heap.size w1 w2 := by
      rw [hw2]
      (repeat (first | exact Below.refl _ _ | refine Below.setCell ?_ (by first | omega | (simp <;> omega)) _ | refine Below.alloc ?_ (by first | omega | (simp <;> omega)) _ | refine Below.drew ?_))
    have hz2 : w2.heap.size = _ := congrArg (fun W : World => W.heap.size) hw2
    try simp at hz2
    have hn2 := hN2.size
    have hs2_0 : w1.heap.size < w2.heap.size := by omega
    have kb2_0_0 : w2.cell? ⟨w1.heap.size, 0, none⟩ = some (.int .i64 p) := by rw [hw2]; go_simp
    have kb2_0_1 : w2.cell? ⟨w1.heap.size, 1, none⟩ = some (.int .i64 q) := by rw [hw2]; go_simp
    have kb2_0_2 : w2.cell? ⟨w1.heap.size, 2, none⟩ = some (.slice a2 L.length c2) := by rw [hw2]; go_simp
    have HB2 := Lib.hid (HB1.out.trans (hN2.mono (by first | exact Nat.le_refl _ | omega)))
    have HR2_p := Lib.hid (HR1_p.out.below hN2 (by first | exact Nat.le_refl _ | omega))
    have HR2_dd := Lib.hid (HR1_dd.out.below hN2 (by first | exact Nat.le_refl _ | omega))
    clear hw2 hN2 hz2
    refine (HI.out _ _ _ _ _ _ _ _ _ HR2_p.out HR2_dd.out).mono ?_
    rintro e w3 ⟨a3, c3, rfl, hI3, hb3⟩
    obtain ⟨hc3, hf3⟩ := bcell hb3
    have hz3 := hb3.size
    try simp at hz3
    have hN3 : Below w2.heap.size w2 w3 := by
      refine Below.trans ?_ (hb3.mono (by first | omega | (simp <;> omega)))
      (repeat (first | exact Below.refl _ _ | refine Below.setCell ?_ (by first | omega | (simp <;> omega)) _ | refine Below.alloc ?_ (by first | omega | (simp <;> omega)) _ | refine Below.drew ?_))
    have hn3 := hN3.size
    have hs3_0 : w1.heap.size < w3.heap.size := by omega
    have kb3_0_0 : w3.cell? ⟨w1.heap.size, 0, none⟩ = some (.int .i64 p) := by go_simp
    have kb3_0_1 : w3.cell? ⟨w1.heap.size, 1, none⟩ = some (.int .i64 q) := by go_simp
    have kb3_0_2 : w3.cell? ⟨w1.heap.size, 2, none⟩ = some (.slice a2 L.length c2) := by go_simp
    have HB3 := Lib.hid (HB2.out.trans (hN3.mono (by first | exact Nat.le_refl _ | omega)))
    have HR3_p := Lib.hid (HR2_p.out.below hN3 (by first | exact Nat.le_refl _ | omega))
    have HR3_dd := Lib.hid (HR2_dd.out.below hN3 (by first | exact Nat.le_refl _ | omega))
    clear hc3 hf3 hb3 hN3 hz3
    have HR3_x := Lib.hid (hI3)
    clear hI3
    go_wp2_with fail
    refine calls_namedD ?_
    intro w4 hw4
    have hN4 : Below w3.heap.size w3 w4 := by
      rw [hw4]
      (repeat (first | exact Below.refl _ _ | refine Below.setCell ?_ (by first | omega | (simp <;> omega)) _ | refine Below.alloc ?_ (by first | omega | (simp <;> omega)) _ | refine Below.drew ?_))
    have hz4 : w4.heap.size = _ := congrArg (fun W : World => W.heap.size) hw4
    try simp at hz4
    have hn4 := hN4.size
    have hs4_0 : w1.heap.size < w4.heap.size := by omega
    have hs4_1 : w3.heap.size < w4.heap.size := by omega
    have kb4_0_0 : w4.cell? ⟨w1.heap.size, 0, none⟩ = some (.int .i64 p) := by rw [hw4]; go_simp
    have kb4_0_1 : w4.cell? ⟨w1.heap.size, 1, none⟩ = some (.int .i64 q) := by rw [hw4]; go_simp
    have kb4_0_2 : w4.cell? ⟨w1.heap.size, 2, none⟩ = some (.slice a2 L.length c2) := by rw [hw4]; go_simp
    have kb4_1_0 : w4.cell? ⟨w3.heap.size, 0, none⟩ = some (.int .i64 rp) := by rw [hw4]; go_simp
    have kb4_1_1 : w4.cell? ⟨w3.heap.size, 1, none⟩ = some (.int .i64 rq) := by rw [hw4]; go_simp
    have kb4_1_2 : w4.cell? ⟨w3.heap.size, 2, none⟩ = some (.slice a3 R.length c3) := by rw [hw4]; go_simp
    have HB4 := Lib.hid (HB3.out.trans (hN4.mono (by first | exact Nat.le_refl _ | omega)))
    have HR4_p := Lib.hid (HR3_p.out.below hN4 (by first | exact Nat.le_refl _ | omega))
    have HR4_dd := Lib.hid (HR3_dd.out.below hN4 (by first | exact Nat.le_refl _ | omega))
    have HR4_x := Lib.hid (HR3_x.out.below hN4 (by first | exact Nat.le_refl _ | omega))
    clear hw4 hN4 hz4
    refine (HS.out _ _ _ _ _ _ _ _ _ HR4_p.out HR4_dd.out).mono ?_
    rintro e w5 ⟨a4, c4, rfl, hI4, hb5⟩
    obtain ⟨hc5, hf5⟩ := bcell hb5
    have hz5 := hb5.size
    try simp at hz5
    have hN5 : Below w4.heap.size w4 w5 := by
      refine Below.trans ?_ (hb5.mono (by first | omega | (simp <;> omega)))
      (repeat (first | exact Below.refl _ _ | refine Below.setCell ?_ (by first | omega | (simp <;> omega)) _ | refine Below.alloc ?_ (by first | omega | (simp <;> omega)) _ | refine Below.drew ?_))
    have hn5 := hN5.size
    have hs5_0 : w1.heap.size < w5.heap.size := by omega
    have hs5_1 : w3.heap.size < w5.heap.size := by omega
    have kb5_0_0 : w5.cell? ⟨w1.heap.size, 0, none⟩ = some (.int .i64 p) := by go_simp
    have kb5_0_1 : w5.cell? ⟨w1.heap.size, 1, none⟩ = some (.int .i64 q) := by go_simp
    have kb5_0_2 : w5.cell? ⟨w1.heap.size, 2, none⟩ = some (.slice a2 L.length c2) := by go_simp
    have kb5_1_0 : w5.cell? ⟨w3.heap.size, 0, none⟩ = some (.int .i64 rp) := by go_simp
    have kb5_1_1 : w5.cell? ⟨w3.heap.size, 1, none⟩ = some (.int .i64 rq) := by go_simp
    have kb5_1_2 : w5.cell? ⟨w3.heap.size, 2, none⟩ = some (.slice a3 R.length c3) := by go_simp
    have HB5 := Lib.hid (HB4.out.trans (hN5.mono (by first | exact Nat.le_refl _ | omega)))
    have HR5_p := Lib.hid (HR4_p.out.below hN5 (by first | exact Nat.le_refl _ | omega))
    have HR5_dd := Lib.hid (HR4_dd.out.below hN5 (by first | exact Nat.le_refl _ | omega))
    have HR5_x := Lib.hid (HR4_x.out.below hN5 (by first | exact Nat.le_refl _ | omega))
    clear hc5 hf5 hb5 hN5 hz5
    have HR5_y := Lib.hid (hI4)
    clear hI4
    go_wp2_with fail
    refine calls_namedD ?_
    intro w6 hw6
    have hN6 : Below w5.heap.size w5 w6 := by
      rw [hw6]
      (repeat (first | exact Below.refl _ _ | refine Below.setCell ?_ (by first | omega | (simp <;> omega)) _ | refine Below.alloc ?_ (by first | omega | (simp <;> omega)) _ | refine Below.drew ?_))
    have hz6 : w6.heap.size = _ := congrArg (fun W : World => W.heap.size) hw6
    try simp at hz6
    have hn6 := hN6.size
    have hs6_0 : w1.heap.size < w6.heap.size := by omega
    have hs6_1 : w3.heap.size < w6.heap.size := by omega
    have hs6_2 : w5.heap.size < w6.heap.size := by omega
    have kb6_0_0 : w6.cell? ⟨w1.heap.size, 0, none⟩ = some (.int .i64 p) := by rw [hw6]; go_simp
    have kb6_0_1 : w6.cell? ⟨w1.heap.size, 1, none⟩ = some (.int .i64 q) := by rw [hw6]; go_simp
    have kb6_0_2 : w6.cell? ⟨w1.heap.size, 2, none⟩ = some (.slice a2 L.length c2) := by rw [hw6]; go_simp
    have kb6_1_0 : w6.cell? ⟨w3.heap.size, 0, none⟩ = some (.int .i64 rp) := by rw [hw6]; go_simp
    have kb6_1_1 : w6.cell? ⟨w3.heap.size, 1, none⟩ = some (.int .i64 rq) := by rw [hw6]; go_simp
    have kb6_1_2 : w6.cell? ⟨w3.heap.size, 2, none⟩ = some (.slice a3 R.length c3) := by rw [hw6]; go_simp
    have kb6_2_0 : w6.cell? ⟨w5.heap.size, 0, none⟩ = some (.int .i64 rp) := by rw [hw6]; go_simp
    have kb6_2_1 : w6.cell? ⟨w5.heap.size, 1, none⟩ = some (.int .i64 rq) := by rw [hw6]; go_simp
    have kb6_2_2 : w6.cell? ⟨w5.heap.size, 2, none⟩ = some (.slice a4 R.length c4) := by rw [hw6]; go_simp
    have HB6 := Lib.hid (HB5.out.trans (hN6.mono (by first | exact Nat.le_refl _ | omega)))
    have HR6_p := Lib.hid (HR5_p.out.below hN6 (by first | exact Nat.le_refl _ | omega))
    have HR6_dd := Lib.hid (HR5_dd.out.below hN6 (by first | exact Nat.le_refl _ | omega))
    have HR6_x := Lib.hid (HR5_x.out.below hN6 (by first | exact Nat.le_refl _ | omega))
    have HR6_y := Lib.hid (HR5_y.out.below hN6 (by first | exact Nat.le_refl _ | omega))
    clear hw6 hN6 hz6
    refine (sameDesk_yes _ _ _ _ rp rq _ _ R _ HR6_x.out HR6_y.out hRn).mono ?_
    rintro e w7 ⟨rfl, hb7⟩
    obtain ⟨hc7, hf7⟩ := bcell hb7
    have hz7 := hb7.size
    try simp at hz7
    have hN7 : Below w6.heap.size w6 w7 := by
      refine Below.trans ?_ (hb7.mono (by first | omega | (simp <;> omega)))
      (repeat (first | exact Below.refl _ _ | refine Below.setCell ?_ (by first | omega | (simp <;> omega)) _ | refine Below.alloc ?_ (by first | omega | (simp <;> omega)) _ | refine Below.drew ?_))
    have hn7 := hN7.size
    have hs7_0 : w1.heap.size < w7.heap.size := by omega
    have hs7_1 : w3.heap.size < w7.heap.size := by omega
    have hs7_2 : w5.heap.size < w7.heap.size := by omega
    have kb7_0_0 : w7.cell? ⟨w1.heap.size, 0, none⟩ = some (.int .i64 p) := by go_simp
    have kb7_0_1 : w7.cell? ⟨w1.heap.size, 1, none⟩ = some (.int .i64 q) := by go_simp
    have kb7_0_2 : w7.cell? ⟨w1.heap.size, 2, none⟩ = some (.slice a2 L.length c2) := by go_simp
    have kb7_1_0 : w7.cell? ⟨w3.heap.size, 0, none⟩ = some (.int .i64 rp) := by go_simp
    have kb7_1_1 : w7.cell? ⟨w3.heap.size, 1, none⟩ = some (.int .i64 rq) := by go_simp
    have kb7_1_2 : w7.cell? ⟨w3.heap.size, 2, none⟩ = some (.slice a3 R.length c3) := by go_simp
    have kb7_2_0 : w7.cell? ⟨w5.heap.size, 0, none⟩ = some (.int .i64 rp) := by go_simp
    have kb7_2_1 : w7.cell? ⟨w5.heap.size, 1, none⟩ = some (.int .i64 rq) := by go_simp
    have kb7_2_2 : w7.cell? ⟨w5.heap.size, 2, none⟩ = some (.slice a4 R.length c4) := by go_simp
    have HB7 := Lib.hid (HB6.out.trans (hN7.mono (by first | exact Nat.le_refl _ | omega)))
    have HR7_p := Lib.hid (HR6_p.out.below hN7 (by first | exact Nat.le_refl _ | omega))
    have HR7_dd := Lib.hid (HR6_dd.out.below hN7 (by first | exact Nat.le_refl _ | omega))
    have HR7_x := Lib.hid (HR6_x.out.below hN7 (by first | exact Nat.le_refl _ | omega))
    have HR7_y := Lib.hid (HR6_y.out.below hN7 (by first | exact Nat.le_refl _ | omega))
    clear hc7 hf7 hb7 hN7 hz7
    have HDD := Lib.hid (HR7_dd.out)
    have hres := HRES.out
    clear HRES HS HI
    obtain ⟨dk, hdk⟩ : ∃ b, deskN ⟨(p, q), L⟩ = b := ⟨_, rfl⟩
    have HD := Lib.hid hdk
    by_cases hyes : dk = true ∧ X.length ≤ 40
    · obtain ⟨rfl, h40⟩ := hyes
      have hdd : deskN ⟨(rp, rq), R⟩ = true := by
        have := runN_desk X hdk
        rwa [← runR_yes hdk h40, hres] at this
      have HR := Lib.hid hdd
      obtain ⟨h2, hh2⟩ : ∃ h2, h2 = X.length / 2 := ⟨_, rfl⟩
      have hh : h2 ≤ X.length := by omega
      have hh0 : 0 < X.length → h2 < X.length := by omega
      have hparts := runR_parts hdk h40 h2
      obtain ⟨up, uq, U, m, hu⟩ : ∃ up uq U m, runR ⟨(p, q), L⟩ (X.take h2) = (⟨(up, uq), U⟩, m) := ⟨_, _, _, _, rfl⟩
      have hU8 : U.length ≤ 8 := by have := runR_lenB ⟨(p, q), L⟩ (X.take h2); rwa [hu] at this
      have hUn : U.length ≤ 1048600 := by omega
      obtain ⟨l, hv⟩ : ∃ l, runR ⟨(up, uq), U⟩ (X.drop h2) = (⟨(rp, rq), R⟩, l) := by
        rw [hu] at hparts
        dsimp only at hparts
        rw [hres] at hparts
        exact ⟨(runR ⟨(up, uq), U⟩ (X.drop h2)).2, by rw [show (⟨(rp, rq), R⟩ : DeskN) = _ from congrArg Prod.fst hparts]⟩
      have hml : (n : Int) = (m : Int) + (l : Int) := by
        rw [hu] at hparts
        dsimp only at hparts
        rw [hv, hres] at hparts
        have := congrArg Prod.snd hparts
        dsimp only at this
        omega
      have hT1 := fun (W : World) (B C B' C' : Nat) (a : Option Addr) (c : Nat) (u : Value) (hI : IsPairs B C W (.slice a L.length c) L) (hD : IsDeeds B' C' W u (X.take h2)) => implRun_any B C B' C' p q L (X.take h2) _ _ W hI hn hD (by rw [List.length_take]; omega)
      have hT2 := fun (W : World) (B C B' C' : Nat) (a : Option Addr) (c : Nat) (u : Value) (hI : IsPairs B C W (.slice a U.length c) U) (hD : IsDeeds B' C' W u (X.drop h2)) => implRun_any B C B' C' up uq U (X.drop h2) _ _ W hI hUn hD (by rw [List.length_drop]; omega)
      unfold RanS at hT1 hT2
      rw [hu] at hT1
      rw [hv] at hT2
      dsimp only at hT1 hT2
      have HT1 := Lib.hid hT1
      have HT2 := Lib.hid hT2
      have hm40 : m ≤ 40 := by
        have h1 := runN_count ⟨(p, q), L⟩ (X.take h2)
        rw [← runR_yes hdk (by rw [List.length_take]; omega), hu, List.length_take] at h1
        dsimp only at h1
        omega
      have hn40 : n ≤ 40 := by
        have h1 := runN_count ⟨(p, q), L⟩ X
        rw [← runR_yes hdk h40, hres] at h1
        dsimp only at h1
        omega
      have hm0 : (0 : Int) ≤ (m : Int) := by omega
      have hl0' : (0 : Int) ≤ (l : Int) := by omega
      have hn40' : (n : Int) ≤ 40 := by omega
      clear hm40 hn40
      have hwn : IntKind.i64.wrap ((m : Int) + (l : Int)) = (n : Int) := by rw [IntKind.wrap_i64, ← hml]; omega
      have h40' : ¬ ((40 : Int) < (X.length : Int)) := by omega
      have HX := Lib.hid hX
      clear hT1 hT2 hu hv hml hparts hdd hdk hres hX hm0 hl0' hn40'
      rcases (show d3 = 0 ∨ ¬ d3 = 0 by omega) with rfl | hd0
      · have hXc : X.length ≤ 0 := (deeds_take HDD.out X.length (Nat.le_refl _)).1
        obtain rfl : h2 = 0 := by omega
        have hl0 : X.length = 0 := by omega
        clear hh hh0 hXc hh2
        go_wp2_with fail
        refine (specOk_is _ _ p q L _ _ HR7_p.out hn true HD.out).mono ?_
        rintro e w8 ⟨rfl, hb8⟩
        obtain ⟨hc8, hf8⟩ := bcell hb8
        have hz8 := hb8.size
        try simp at hz8
        have hN8 : Below w7.heap.size w7 w8 := by
          refine Below.trans ?_ (hb8.mono (by first | omega | (simp <;> omega)))
          (repeat (first | exact Below.refl _ _ | refine Below.setCell ?_ (by first | omega | (simp <;> omega)) _ | refine Below.alloc ?_ (by first | omega | (simp <;> omega)) _ | refine Below.drew ?_))
        have hn8 := hN8.size
        have hs8_0 : w1.heap.size < w8.heap.size := by omega
        have hs8_1 : w3.heap.size < w8.heap.size := by omega
        have kb8_0_0 : w8.cell? ⟨w1.heap.size, 0, none⟩ = some (.int .i64 p) := by go_simp
        have kb8_0_1 : w8.cell? ⟨w1.heap.size, 1, none⟩ = some (.int .i64 q) := by go_simp
        have kb8_0_2 : w8.cell? ⟨w1.heap.size, 2, none⟩ = some (.slice a2 L.length c2) := by go_simp
        have kb8_1_0 : w8.cell? ⟨w3.heap.size, 0, none⟩ = some (.int .i64 rp) := by go_simp
        have kb8_1_1 : w8.cell? ⟨w3.heap.size, 1, none⟩ = some (.int .i64 rq) := by go_simp
        have kb8_1_2 : w8.cell? ⟨w3.heap.size, 2, none⟩ = some (.slice a3 R.length c3) := by go_simp
        have HB8 := Lib.hid (HB7.out.trans (hN8.mono (by first | exact Nat.le_refl _ | omega)))
        have HR8_p := Lib.hid (HR7_p.out.below hN8 (by first | exact Nat.le_refl _ | omega))
        have HR8_dd := Lib.hid (HR7_dd.out.below hN8 (by first | exact Nat.le_refl _ | omega))
        have HR8_x := Lib.hid (HR7_x.out.below hN8 (by first | exact Nat.le_refl _ | omega))
        clear hc8 hf8 hb8 hN8 hz8
        have hT0 : X.take 0 = [] := rfl
        have hX0 : X = [] := List.length_eq_zero_iff.1 hl0
        have hV0 : X.drop 0 = [] := by rw [hX0]; rfl
        have hq2 : ((X.length : Int)).tdiv 2 = 0 := by rw [hl0]; rfl
        have HX0 := Lib.hid hX0
        have HL0 := Lib.hid hl0
        have h0X : (0 : Int) ≤ (X.length : Int) := by omega
        clear hX0 hl0
        go_wp2_with fail
        go_cut [10, 11] from 63 (fun s_ t_ wx => ∃ (b5 B5 C5 : Nat) (a5 : Option Addr) (c5 : Nat), s_ = .pointer (some ⟨b5, 0, none⟩) ∧ t_ = .int .i64 (m : Int) ∧ (w8.heap.size ≤ b5 ∧ b5 < wx.heap.size) ∧ (wx.cell? ⟨b5, 0, none⟩ = some (.int .i64 up) ∧ wx.cell? ⟨b5, 1, none⟩ = some (.int .i64 uq) ∧ wx.cell? ⟨b5, 2, none⟩ = some (.slice a5 U.length c5)) ∧ IsPairs B5 C5 wx (.slice a5 U.length c5) U ∧ (w8.heap.size ≤ B5 ∧ B5 ≤ C5 ∧ C5 ≤ wx.heap.size) ∧ Below w8.heap.size w8 wx)
        case first =>
          go_region_held3 (fun W_ => W_.cell? ⟨w1.heap.size, 0, none⟩ = some (.int .i64 p) ∧ W_.cell? ⟨w1.heap.size, 1, none⟩ = some (.int .i64 q) ∧ W_.cell? ⟨w1.heap.size, 2, none⟩ = some (.slice a2 L.length c2))
            ((go_split_ands; refine ⟨?_, ?_, ?_⟩ <;> (repeat (first | with_reducible assumption | with_reducible refine cell_alloc_is _ ?_ | with_reducible refine cell_drew_is ?_ | with_reducible refine cell_set_is ?_ ?_ | omega)); done))
            ((first | (go_at_call 26; refine (HT1.out _ _ _ _ _ _ _ _ (HR8_p.out.below (show Below w8.heap.size w8 _ by (repeat (first | exact Below.refl _ _ | refine Below.setCell ?_ (by first | omega | (simp <;> omega)) _ | refine Below.alloc ?_ (by first | omega | (simp <;> omega)) _ | refine Below.drew ?_ | refine Below.trans ?_ (Below.mono (by assumption) (by first | omega | (simp <;> omega)))))) (by omega)) (deeds_none _ _ _ _ hT0 (by first | rfl | exact HL0.out))).mono ?_; rintro e w_4 ⟨a4, c4, rfl, hI4, hb_4⟩; obtain ⟨hc_4, hf_4⟩ := bcell hb_4; have hz_4 := hb_4.size; (try simp at hz_4); have kx0 := (hb_4.cell (p := ⟨w1.heap.size, 0, none⟩) (by first | omega | (simp <;> omega))).trans (show _ = some (.int .i64 p) by (repeat (first | with_reducible assumption | with_reducible refine cell_alloc_is _ ?_ | with_reducible refine cell_drew_is ?_ | with_reducible refine cell_set_is ?_ ?_ | omega))); have kx1 := (hb_4.cell (p := ⟨w1.heap.size, 1, none⟩) (by first | omega | (simp <;> omega))).trans (show _ = some (.int .i64 q) by (repeat (first | with_reducible assumption | with_reducible refine cell_alloc_is _ ?_ | with_reducible refine cell_drew_is ?_ | with_reducible refine cell_set_is ?_ ?_ | omega))); have kx2 := (hb_4.cell (p := ⟨w1.heap.size, 2, none⟩) (by first | omega | (simp <;> omega))).trans (show _ = some (.slice a2 L.length c2) by (repeat (first | with_reducible assumption | with_reducible refine cell_alloc_is _ ?_ | with_reducible refine cell_drew_is ?_ | with_reducible refine cell_set_is ?_ ?_ | omega))); obtain ⟨B4, hB4, hI5⟩ := (⟨_, rfl, hI4⟩ : ∃ B, B = _ ∧ IsPairs B w_4.heap.size w_4 (.slice a4 U.length c4) U); (try simp at hB4); (try have hq_4_w8 : w8.heap.size < w_4.heap.size := by omega)) | fail))
          all_goals (go_wp2_with fail; go_meet)
          all_goals
            case rel =>
              refine ⟨_, B4, w_4.heap.size, a4, c4, rfl, rfl, ⟨?_, ?_⟩, ⟨?_, ?_, ?_⟩, ?_, ⟨?_, ?_, ?_⟩, ?_⟩
              · first | omega | (simp <;> omega)
              · first | omega | (simp <;> omega)
              · go_simp
              · go_simp
              · go_simp
              · (repeat (first | exact hI5 | refine IsPairs.set2 ?_ (by first | omega | (simp <;> omega)) _ | refine IsPairs.allocd ?_ _))
              · first | omega | (simp <;> omega)
              · first | omega | (simp <;> omega)
              · first | omega | (simp <;> omega)
              · (repeat (first | exact Below.refl _ _ | refine Below.setCell ?_ (by first | omega | (simp <;> omega)) _ | refine Below.alloc ?_ (by first | omega | (simp <;> omega)) _ | refine Below.drew ?_ | refine Below.trans ?_ (Below.mono (by assumption) (by first | omega | (simp <;> omega)))))
        rename World => w9
        obtain ⟨b10, B10, C10, a10, c10, rfl, rfl, ⟨hb10a, hb10b⟩, ⟨kq10_0, kq10_1, kq10_2⟩, hI10, ⟨hB10, hC10, hD10⟩, hN9⟩ := hcut
        obtain ⟨hc9, hf9⟩ := bcell hN9
        have hn9 := hN9.size
        have hs9_0 : w1.heap.size < w9.heap.size := by omega
        have hs9_1 : w3.heap.size < w9.heap.size := by omega
        have kb9_0_0 : w9.cell? ⟨w1.heap.size, 0, none⟩ = some (.int .i64 p) := by go_simp
        have kb9_0_1 : w9.cell? ⟨w1.heap.size, 1, none⟩ = some (.int .i64 q) := by go_simp
        have kb9_0_2 : w9.cell? ⟨w1.heap.size, 2, none⟩ = some (.slice a2 L.length c2) := by go_simp
        have kb9_1_0 : w9.cell? ⟨w3.heap.size, 0, none⟩ = some (.int .i64 rp) := by go_simp
        have kb9_1_1 : w9.cell? ⟨w3.heap.size, 1, none⟩ = some (.int .i64 rq) := by go_simp
        have kb9_1_2 : w9.cell? ⟨w3.heap.size, 2, none⟩ = some (.slice a3 R.length c3) := by go_simp
        have HB9 := Lib.hid (HB8.out.trans (hN9.mono (by first | exact Nat.le_refl _ | omega)))
        have HR9_p := Lib.hid (HR8_p.out.below hN9 (by first | exact Nat.le_refl _ | omega))
        have HR9_dd := Lib.hid (HR8_dd.out.below hN9 (by first | exact Nat.le_refl _ | omega))
        have HR9_x := Lib.hid (HR8_x.out.below hN9 (by first | exact Nat.le_refl _ | omega))
        clear hc9 hf9 hN9
        have HR9_u := Lib.hid (hI10)
        clear hI10
        go_wp2_with fail
        go_cut [12, 13] from 71 (fun s_ t_ wx => ∃ (b5 B5 C5 : Nat) (a5 : Option Addr) (c5 : Nat), s_ = .pointer (some ⟨b5, 0, none⟩) ∧ t_ = .int .i64 ((l : Nat) : Int) ∧ (w9.heap.size ≤ b5 ∧ b5 < wx.heap.size) ∧ (wx.cell? ⟨b5, 0, none⟩ = some (.int .i64 rp) ∧ wx.cell? ⟨b5, 1, none⟩ = some (.int .i64 rq) ∧ wx.cell? ⟨b5, 2, none⟩ = some (.slice a5 R.length c5)) ∧ IsPairs B5 C5 wx (.slice a5 R.length c5) R ∧ (w9.heap.size ≤ B5 ∧ B5 ≤ C5 ∧ C5 ≤ wx.heap.size) ∧ Below w9.heap.size w9 wx)
        case first =>
          go_region_held3 (fun W_ => W_.cell? ⟨b10, 0, none⟩ = some (.int .i64 up) ∧ W_.cell? ⟨b10, 1, none⟩ = some (.int .i64 uq) ∧ W_.cell? ⟨b10, 2, none⟩ = some (.slice a10 U.length c10))
            ((go_split_ands; refine ⟨?_, ?_, ?_⟩ <;> (repeat (first | with_reducible assumption | with_reducible refine cell_alloc_is _ ?_ | with_reducible refine cell_drew_is ?_ | with_reducible refine cell_set_is ?_ ?_ | omega)); done))
            ((first | (go_at_call 26; refine (HT2.out _ _ _ _ _ _ _ _ (HR9_u.out.below (show Below w9.heap.size w9 _ by (repeat (first | exact Below.refl _ _ | refine Below.setCell ?_ (by first | omega | (simp <;> omega)) _ | refine Below.alloc ?_ (by first | omega | (simp <;> omega)) _ | refine Below.drew ?_ | refine Below.trans ?_ (Below.mono (by assumption) (by first | omega | (simp <;> omega)))))) (by omega)) (deeds_none _ _ _ _ hV0 (by first | rfl | exact HL0.out | (rw [Nat.sub_zero]; exact HL0.out)))).mono ?_; rintro e w_4 ⟨a4, c4, rfl, hI4, hb_4⟩; obtain ⟨hc_4, hf_4⟩ := bcell hb_4; have hz_4 := hb_4.size; (try simp at hz_4); have kx0 := (hb_4.cell (p := ⟨b10, 0, none⟩) (by first | omega | (simp <;> omega))).trans (show _ = some (.int .i64 up) by (repeat (first | with_reducible assumption | with_reducible refine cell_alloc_is _ ?_ | with_reducible refine cell_drew_is ?_ | with_reducible refine cell_set_is ?_ ?_ | omega))); have kx1 := (hb_4.cell (p := ⟨b10, 1, none⟩) (by first | omega | (simp <;> omega))).trans (show _ = some (.int .i64 uq) by (repeat (first | with_reducible assumption | with_reducible refine cell_alloc_is _ ?_ | with_reducible refine cell_drew_is ?_ | with_reducible refine cell_set_is ?_ ?_ | omega))); have kx2 := (hb_4.cell (p := ⟨b10, 2, none⟩) (by first | omega | (simp <;> omega))).trans (show _ = some (.slice a10 U.length c10) by (repeat (first | with_reducible assumption | with_reducible refine cell_alloc_is _ ?_ | with_reducible refine cell_drew_is ?_ | with_reducible refine cell_set_is ?_ ?_ | omega))); obtain ⟨B4, hB4, hI5⟩ := (⟨_, rfl, hI4⟩ : ∃ B, B = _ ∧ IsPairs B w_4.heap.size w_4 (.slice a4 R.length c4) R); (try simp at hB4); (try have hq_4_w9 : w9.heap.size < w_4.heap.size := by omega)) | fail))
          all_goals (go_wp2_with fail; go_meet)
          all_goals
            case rel =>
              refine ⟨_, B4, w_4.heap.size, a4, c4, rfl, rfl, ⟨?_, ?_⟩, ⟨?_, ?_, ?_⟩, ?_, ⟨?_, ?_, ?_⟩, ?_⟩
              · first | omega | (simp <;> omega)
              · first | omega | (simp <;> omega)
              · go_simp
              · go_simp
              · go_simp
              · (repeat (first | exact hI5 | refine IsPairs.set2 ?_ (by first | omega | (simp <;> omega)) _ | refine IsPairs.allocd ?_ _))
              · first | omega | (simp <;> omega)
              · first | omega | (simp <;> omega)
              · first | omega | (simp <;> omega)
              · (repeat (first | exact Below.refl _ _ | refine Below.setCell ?_ (by first | omega | (simp <;> omega)) _ | refine Below.alloc ?_ (by first | omega | (simp <;> omega)) _ | refine Below.drew ?_ | refine Below.trans ?_ (Below.mono (by assumption) (by first | omega | (simp <;> omega)))))
        rename World => w10
        obtain ⟨b12, B12, C12, a12, c12, rfl, rfl, ⟨hb12a, hb12b⟩, ⟨kq12_0, kq12_1, kq12_2⟩, hI12, ⟨hB12, hC12, hD12⟩, hN10⟩ := hcut
        obtain ⟨hc10, hf10⟩ := bcell hN10
        have hn10 := hN10.size
        have hs10_0 : w1.heap.size < w10.heap.size := by omega
        have hs10_1 : w3.heap.size < w10.heap.size := by omega
        have hs10_2 : b10 < w10.heap.size := by omega
        have kb10_0_0 : w10.cell? ⟨w1.heap.size, 0, none⟩ = some (.int .i64 p) := by go_simp
        have kb10_0_1 : w10.cell? ⟨w1.heap.size, 1, none⟩ = some (.int .i64 q) := by go_simp
        have kb10_0_2 : w10.cell? ⟨w1.heap.size, 2, none⟩ = some (.slice a2 L.length c2) := by go_simp
        have kb10_1_0 : w10.cell? ⟨w3.heap.size, 0, none⟩ = some (.int .i64 rp) := by go_simp
        have kb10_1_1 : w10.cell? ⟨w3.heap.size, 1, none⟩ = some (.int .i64 rq) := by go_simp
        have kb10_1_2 : w10.cell? ⟨w3.heap.size, 2, none⟩ = some (.slice a3 R.length c3) := by go_simp
        have kb10_2_0 : w10.cell? ⟨b10, 0, none⟩ = some (.int .i64 up) := by go_simp
        have kb10_2_1 : w10.cell? ⟨b10, 1, none⟩ = some (.int .i64 uq) := by go_simp
        have kb10_2_2 : w10.cell? ⟨b10, 2, none⟩ = some (.slice a10 U.length c10) := by go_simp
        have HB10 := Lib.hid (HB9.out.trans (hN10.mono (by first | exact Nat.le_refl _ | omega)))
        have HR10_p := Lib.hid (HR9_p.out.below hN10 (by first | exact Nat.le_refl _ | omega))
        have HR10_dd := Lib.hid (HR9_dd.out.below hN10 (by first | exact Nat.le_refl _ | omega))
        have HR10_x := Lib.hid (HR9_x.out.below hN10 (by first | exact Nat.le_refl _ | omega))
        have HR10_u := Lib.hid (HR9_u.out.below hN10 (by first | exact Nat.le_refl _ | omega))
        clear hc10 hf10 hN10
        have HR10_v := Lib.hid (hI12)
        clear hI12
        go_wp2_with fail
        refine (implOk_is _ _ rp rq R _ _ HR10_x.out hRn true HR.out).mono ?_
        rintro e w11 ⟨rfl, hb11⟩
        obtain ⟨hc11, hf11⟩ := bcell hb11
        have hz11 := hb11.size
        try simp at hz11
        have hN11 : Below w10.heap.size w10 w11 := by
          refine Below.trans ?_ (hb11.mono (by first | omega | (simp <;> omega)))
          (repeat (first | exact Below.refl _ _ | refine Below.setCell ?_ (by first | omega | (simp <;> omega)) _ | refine Below.alloc ?_ (by first | omega | (simp <;> omega)) _ | refine Below.drew ?_))
        have hn11 := hN11.size
        have hs11_0 : w1.heap.size < w11.heap.size := by omega
        have hs11_1 : w3.heap.size < w11.heap.size := by omega
        have hs11_2 : b10 < w11.heap.size := by omega
        have hs11_3 : b12 < w11.heap.size := by omega
        have kb11_0_0 : w11.cell? ⟨w1.heap.size, 0, none⟩ = some (.int .i64 p) := by go_simp
        have kb11_0_1 : w11.cell? ⟨w1.heap.size, 1, none⟩ = some (.int .i64 q) := by go_simp
        have kb11_0_2 : w11.cell? ⟨w1.heap.size, 2, none⟩ = some (.slice a2 L.length c2) := by go_simp
        have kb11_1_0 : w11.cell? ⟨w3.heap.size, 0, none⟩ = some (.int .i64 rp) := by go_simp
        have kb11_1_1 : w11.cell? ⟨w3.heap.size, 1, none⟩ = some (.int .i64 rq) := by go_simp
        have kb11_1_2 : w11.cell? ⟨w3.heap.size, 2, none⟩ = some (.slice a3 R.length c3) := by go_simp
        have kb11_2_0 : w11.cell? ⟨b10, 0, none⟩ = some (.int .i64 up) := by go_simp
        have kb11_2_1 : w11.cell? ⟨b10, 1, none⟩ = some (.int .i64 uq) := by go_simp
        have kb11_2_2 : w11.cell? ⟨b10, 2, none⟩ = some (.slice a10 U.length c10) := by go_simp
        have kb11_3_0 : w11.cell? ⟨b12, 0, none⟩ = some (.int .i64 rp) := by go_simp
        have kb11_3_1 : w11.cell? ⟨b12, 1, none⟩ = some (.int .i64 rq) := by go_simp
        have kb11_3_2 : w11.cell? ⟨b12, 2, none⟩ = some (.slice a12 R.length c12) := by go_simp
        have HB11 := Lib.hid (HB10.out.trans (hN11.mono (by first | exact Nat.le_refl _ | omega)))
        have HR11_p := Lib.hid (HR10_p.out.below hN11 (by first | exact Nat.le_refl _ | omega))
        have HR11_dd := Lib.hid (HR10_dd.out.below hN11 (by first | exact Nat.le_refl _ | omega))
        have HR11_x := Lib.hid (HR10_x.out.below hN11 (by first | exact Nat.le_refl _ | omega))
        have HR11_u := Lib.hid (HR10_u.out.below hN11 (by first | exact Nat.le_refl _ | omega))
        have HR11_v := Lib.hid (HR10_v.out.below hN11 (by first | exact Nat.le_refl _ | omega))
        clear hc11 hf11 hb11 hN11 hz11
        go_wp2_with fail
        refine (sameDesk_yes _ _ _ _ rp rq _ _ R _ HR11_v.out HR11_x.out hRn).mono ?_
        rintro e w12 ⟨rfl, hb12⟩
        obtain ⟨hc12, hf12⟩ := bcell hb12
        have hz12 := hb12.size
        try simp at hz12
        have hN12 : Below w11.heap.size w11 w12 := by
          refine Below.trans ?_ (hb12.mono (by first | omega | (simp <;> omega)))
          (repeat (first | exact Below.refl _ _ | refine Below.setCell ?_ (by first | omega | (simp <;> omega)) _ | refine Below.alloc ?_ (by first | omega | (simp <;> omega)) _ | refine Below.drew ?_))
        have hn12 := hN12.size
        have hs12_0 : w1.heap.size < w12.heap.size := by omega
        have hs12_1 : w3.heap.size < w12.heap.size := by omega
        have hs12_2 : b10 < w12.heap.size := by omega
        have hs12_3 : b12 < w12.heap.size := by omega
        have kb12_0_0 : w12.cell? ⟨w1.heap.size, 0, none⟩ = some (.int .i64 p) := by go_simp
        have kb12_0_1 : w12.cell? ⟨w1.heap.size, 1, none⟩ = some (.int .i64 q) := by go_simp
        have kb12_0_2 : w12.cell? ⟨w1.heap.size, 2, none⟩ = some (.slice a2 L.length c2) := by go_simp
        have kb12_1_0 : w12.cell? ⟨w3.heap.size, 0, none⟩ = some (.int .i64 rp) := by go_simp
        have kb12_1_1 : w12.cell? ⟨w3.heap.size, 1, none⟩ = some (.int .i64 rq) := by go_simp
        have kb12_1_2 : w12.cell? ⟨w3.heap.size, 2, none⟩ = some (.slice a3 R.length c3) := by go_simp
        have kb12_2_0 : w12.cell? ⟨b10, 0, none⟩ = some (.int .i64 up) := by go_simp
        have kb12_2_1 : w12.cell? ⟨b10, 1, none⟩ = some (.int .i64 uq) := by go_simp
        have kb12_2_2 : w12.cell? ⟨b10, 2, none⟩ = some (.slice a10 U.length c10) := by go_simp
        have kb12_3_0 : w12.cell? ⟨b12, 0, none⟩ = some (.int .i64 rp) := by go_simp
        have kb12_3_1 : w12.cell? ⟨b12, 1, none⟩ = some (.int .i64 rq) := by go_simp
        have kb12_3_2 : w12.cell? ⟨b12, 2, none⟩ = some (.slice a12 R.length c12) := by go_simp
        have HB12 := Lib.hid (HB11.out.trans (hN12.mono (by first | exact Nat.le_refl _ | omega)))
        have HR12_p := Lib.hid (HR11_p.out.below hN12 (by first | exact Nat.le_refl _ | omega))
        have HR12_dd := Lib.hid (HR11_dd.out.below hN12 (by first | exact Nat.le_refl _ | omega))
        have HR12_x := Lib.hid (HR11_x.out.below hN12 (by first | exact Nat.le_refl _ | omega))
        have HR12_u := Lib.hid (HR11_u.out.below hN12 (by first | exact Nat.le_refl _ | omega))
        have HR12_v := Lib.hid (HR11_v.out.below hN12 (by first | exact Nat.le_refl _ | omega))
        clear hc12 hf12 hb12 hN12 hz12
        go_wp2_with fail
        refine (alive_any _).mono ?_
        rintro e w13 ⟨rfl, hb13⟩
        obtain ⟨hc13, hf13⟩ := bcell hb13
        have hz13 := hb13.size
        try simp at hz13
        have hN13 : Below w12.heap.size w12 w13 := by
          refine Below.trans ?_ (hb13.mono (by first | omega | (simp <;> omega)))
          (repeat (first | exact Below.refl _ _ | refine Below.setCell ?_ (by first | omega | (simp <;> omega)) _ | refine Below.alloc ?_ (by first | omega | (simp <;> omega)) _ | refine Below.drew ?_))
        have hn13 := hN13.size
        have hs13_0 : w1.heap.size < w13.heap.size := by omega
        have hs13_1 : w3.heap.size < w13.heap.size := by omega
        have hs13_2 : b10 < w13.heap.size := by omega
        have hs13_3 : b12 < w13.heap.size := by omega
        have kb13_0_0 : w13.cell? ⟨w1.heap.size, 0, none⟩ = some (.int .i64 p) := by go_simp
        have kb13_0_1 : w13.cell? ⟨w1.heap.size, 1, none⟩ = some (.int .i64 q) := by go_simp
        have kb13_0_2 : w13.cell? ⟨w1.heap.size, 2, none⟩ = some (.slice a2 L.length c2) := by go_simp
        have kb13_1_0 : w13.cell? ⟨w3.heap.size, 0, none⟩ = some (.int .i64 rp) := by go_simp
        have kb13_1_1 : w13.cell? ⟨w3.heap.size, 1, none⟩ = some (.int .i64 rq) := by go_simp
        have kb13_1_2 : w13.cell? ⟨w3.heap.size, 2, none⟩ = some (.slice a3 R.length c3) := by go_simp
        have kb13_2_0 : w13.cell? ⟨b10, 0, none⟩ = some (.int .i64 up) := by go_simp
        have kb13_2_1 : w13.cell? ⟨b10, 1, none⟩ = some (.int .i64 uq) := by go_simp
        have kb13_2_2 : w13.cell? ⟨b10, 2, none⟩ = some (.slice a10 U.length c10) := by go_simp
        have kb13_3_0 : w13.cell? ⟨b12, 0, none⟩ = some (.int .i64 rp) := by go_simp
        have kb13_3_1 : w13.cell? ⟨b12, 1, none⟩ = some (.int .i64 rq) := by go_simp
        have kb13_3_2 : w13.cell? ⟨b12, 2, none⟩ = some (.slice a12 R.length c12) := by go_simp
        have HB13 := Lib.hid (HB12.out.trans (hN13.mono (by first | exact Nat.le_refl _ | omega)))
        have HR13_p := Lib.hid (HR12_p.out.below hN13 (by first | exact Nat.le_refl _ | omega))
        have HR13_dd := Lib.hid (HR12_dd.out.below hN13 (by first | exact Nat.le_refl _ | omega))
        have HR13_x := Lib.hid (HR12_x.out.below hN13 (by first | exact Nat.le_refl _ | omega))
        have HR13_u := Lib.hid (HR12_u.out.below hN13 (by first | exact Nat.le_refl _ | omega))
        have HR13_v := Lib.hid (HR12_v.out.below hN13 (by first | exact Nat.le_refl _ | omega))
        clear hc13 hf13 hb13 hN13 hz13
        go_wp2
        go_ret
        exact ⟨rfl, HB13.out⟩
      · have hXc : X.length ≤ d3 := (deeds_take HDD.out X.length (Nat.le_refl _)).1
        have hq2 : ((X.length : Int)).tdiv 2 = (h2 : Int) := by rw [Int.tdiv_eq_ediv_of_nonneg (by omega)]; omega
        clear hh2
        go_wp2_with fail
        refine (specOk_is _ _ p q L _ _ HR7_p.out hn true HD.out).mono ?_
        rintro e w8 ⟨rfl, hb8⟩
        obtain ⟨hc8, hf8⟩ := bcell hb8
        have hz8 := hb8.size
        try simp at hz8
        have hN8 : Below w7.heap.size w7 w8 := by
          refine Below.trans ?_ (hb8.mono (by first | omega | (simp <;> omega)))
          (repeat (first | exact Below.refl _ _ | refine Below.setCell ?_ (by first | omega | (simp <;> omega)) _ | refine Below.alloc ?_ (by first | omega | (simp <;> omega)) _ | refine Below.drew ?_))
        have hn8 := hN8.size
        have hs8_0 : w1.heap.size < w8.heap.size := by omega
        have hs8_1 : w3.heap.size < w8.heap.size := by omega
        have kb8_0_0 : w8.cell? ⟨w1.heap.size, 0, none⟩ = some (.int .i64 p) := by go_simp
        have kb8_0_1 : w8.cell? ⟨w1.heap.size, 1, none⟩ = some (.int .i64 q) := by go_simp
        have kb8_0_2 : w8.cell? ⟨w1.heap.size, 2, none⟩ = some (.slice a2 L.length c2) := by go_simp
        have kb8_1_0 : w8.cell? ⟨w3.heap.size, 0, none⟩ = some (.int .i64 rp) := by go_simp
        have kb8_1_1 : w8.cell? ⟨w3.heap.size, 1, none⟩ = some (.int .i64 rq) := by go_simp
        have kb8_1_2 : w8.cell? ⟨w3.heap.size, 2, none⟩ = some (.slice a3 R.length c3) := by go_simp
        have HB8 := Lib.hid (HB7.out.trans (hN8.mono (by first | exact Nat.le_refl _ | omega)))
        have HR8_p := Lib.hid (HR7_p.out.below hN8 (by first | exact Nat.le_refl _ | omega))
        have HR8_dd := Lib.hid (HR7_dd.out.below hN8 (by first | exact Nat.le_refl _ | omega))
        have HR8_x := Lib.hid (HR7_x.out.below hN8 (by first | exact Nat.le_refl _ | omega))
        clear hc8 hf8 hb8 hN8 hz8
        have hkc : h2 ≤ d3 := by omega
        have hT := HR8_dd.out.take h2 d3 hh hkc
        obtain ⟨v2, d2, hs2, hV⟩ := deeds_drop HR8_dd.out h2 hh hh0
        have hd2 : ¬ d3 = h2 := by omega
        have hd2' : ¬ h2 = d3 := by omega
        have hd0' : ¬ 0 = d3 := by omega
        have hs2' := hs2
        simp [sliced, hd2] at hs2'
        obtain ⟨hv2, hw2⟩ := hs2'
        rw [← hv2, ← hw2] at hV
        clear hs2 hv2 hw2
        have HR8_tt := Lib.hid (hT)
        have HR8_vv := Lib.hid (hV)
        clear hT hV
        have hk3 : ((h2 : Int) ≤ (d3 : Int)) := by omega
        have hw2 : IntKind.i64.wrap (h2 : Int) = (h2 : Int) := by rw [IntKind.wrap_i64]; omega
        have hh0' : (0 : Int) ≤ (h2 : Int) := by omega
        have hhX : (h2 : Int) ≤ (X.length : Int) := by omega
        go_wp2_with fail
        go_cut [10, 11] from 63 (fun s_ t_ wx => ∃ (b5 B5 C5 : Nat) (a5 : Option Addr) (c5 : Nat), s_ = .pointer (some ⟨b5, 0, none⟩) ∧ t_ = .int .i64 (m : Int) ∧ (w8.heap.size ≤ b5 ∧ b5 < wx.heap.size) ∧ (wx.cell? ⟨b5, 0, none⟩ = some (.int .i64 up) ∧ wx.cell? ⟨b5, 1, none⟩ = some (.int .i64 uq) ∧ wx.cell? ⟨b5, 2, none⟩ = some (.slice a5 U.length c5)) ∧ IsPairs B5 C5 wx (.slice a5 U.length c5) U ∧ (w8.heap.size ≤ B5 ∧ B5 ≤ C5 ∧ C5 ≤ wx.heap.size) ∧ Below w8.heap.size w8 wx)
        case first =>
          go_region_held3 (fun W_ => W_.cell? ⟨w1.heap.size, 0, none⟩ = some (.int .i64 p) ∧ W_.cell? ⟨w1.heap.size, 1, none⟩ = some (.int .i64 q) ∧ W_.cell? ⟨w1.heap.size, 2, none⟩ = some (.slice a2 L.length c2))
            ((go_split_ands; refine ⟨?_, ?_, ?_⟩ <;> (repeat (first | with_reducible assumption | with_reducible refine cell_alloc_is _ ?_ | with_reducible refine cell_drew_is ?_ | with_reducible refine cell_set_is ?_ ?_ | omega)); done))
            ((first | (go_at_call 26; refine (HT1.out _ _ _ _ _ _ _ _ (HR8_p.out.below (show Below w8.heap.size w8 _ by (repeat (first | exact Below.refl _ _ | refine Below.setCell ?_ (by first | omega | (simp <;> omega)) _ | refine Below.alloc ?_ (by first | omega | (simp <;> omega)) _ | refine Below.drew ?_ | refine Below.trans ?_ (Below.mono (by assumption) (by first | omega | (simp <;> omega)))))) (by omega)) (HR8_tt.out.below (show Below w8.heap.size w8 _ by (repeat (first | exact Below.refl _ _ | refine Below.setCell ?_ (by first | omega | (simp <;> omega)) _ | refine Below.alloc ?_ (by first | omega | (simp <;> omega)) _ | refine Below.drew ?_ | refine Below.trans ?_ (Below.mono (by assumption) (by first | omega | (simp <;> omega)))))) (by omega))).mono ?_; rintro e w_4 ⟨a4, c4, rfl, hI4, hb_4⟩; obtain ⟨hc_4, hf_4⟩ := bcell hb_4; have hz_4 := hb_4.size; (try simp at hz_4); have kx0 := (hb_4.cell (p := ⟨w1.heap.size, 0, none⟩) (by first | omega | (simp <;> omega))).trans (show _ = some (.int .i64 p) by (repeat (first | with_reducible assumption | with_reducible refine cell_alloc_is _ ?_ | with_reducible refine cell_drew_is ?_ | with_reducible refine cell_set_is ?_ ?_ | omega))); have kx1 := (hb_4.cell (p := ⟨w1.heap.size, 1, none⟩) (by first | omega | (simp <;> omega))).trans (show _ = some (.int .i64 q) by (repeat (first | with_reducible assumption | with_reducible refine cell_alloc_is _ ?_ | with_reducible refine cell_drew_is ?_ | with_reducible refine cell_set_is ?_ ?_ | omega))); have kx2 := (hb_4.cell (p := ⟨w1.heap.size, 2, none⟩) (by first | omega | (simp <;> omega))).trans (show _ = some (.slice a2 L.length c2) by (repeat (first | with_reducible assumption | with_reducible refine cell_alloc_is _ ?_ | with_reducible refine cell_drew_is ?_ | with_reducible refine cell_set_is ?_ ?_ | omega))); obtain ⟨B4, hB4, hI5⟩ := (⟨_, rfl, hI4⟩ : ∃ B, B = _ ∧ IsPairs B w_4.heap.size w_4 (.slice a4 U.length c4) U); (try simp at hB4); (try have hq_4_w8 : w8.heap.size < w_4.heap.size := by omega)) | fail))
          all_goals (go_wp2_with fail; go_meet)
          all_goals
            case rel =>
              refine ⟨_, B4, w_4.heap.size, a4, c4, rfl, rfl, ⟨?_, ?_⟩, ⟨?_, ?_, ?_⟩, ?_, ⟨?_, ?_, ?_⟩, ?_⟩
              · first | omega | (simp <;> omega)
              · first | omega | (simp <;> omega)
              · go_simp
              · go_simp
              · go_simp
              · (repeat (first | exact hI5 | refine IsPairs.set2 ?_ (by first | omega | (simp <;> omega)) _ | refine IsPairs.allocd ?_ _))
              · first | omega | (simp <;> omega)
              · first | omega | (simp <;> omega)
              · first | omega | (simp <;> omega)
              · (repeat (first | exact Below.refl _ _ | refine Below.setCell ?_ (by first | omega | (simp <;> omega)) _ | refine Below.alloc ?_ (by first | omega | (simp <;> omega)) _ | refine Below.drew ?_ | refine Below.trans ?_ (Below.mono (by assumption) (by first | omega | (simp <;> omega)))))
        rename World => w9
        obtain ⟨b10, B10, C10, a10, c10, rfl, rfl, ⟨hb10a, hb10b⟩, ⟨kq10_0, kq10_1, kq10_2⟩, hI10, ⟨hB10, hC10, hD10⟩, hN9⟩ := hcut
        obtain ⟨hc9, hf9⟩ := bcell hN9
        have hn9 := hN9.size
        have hs9_0 : w1.heap.size < w9.heap.size := by omega
        have hs9_1 : w3.heap.size < w9.heap.size := by omega
        have kb9_0_0 : w9.cell? ⟨w1.heap.size, 0, none⟩ = some (.int .i64 p) := by go_simp
        have kb9_0_1 : w9.cell? ⟨w1.heap.size, 1, none⟩ = some (.int .i64 q) := by go_simp
        have kb9_0_2 : w9.cell? ⟨w1.heap.size, 2, none⟩ = some (.slice a2 L.length c2) := by go_simp
        have kb9_1_0 : w9.cell? ⟨w3.heap.size, 0, none⟩ = some (.int .i64 rp) := by go_simp
        have kb9_1_1 : w9.cell? ⟨w3.heap.size, 1, none⟩ = some (.int .i64 rq) := by go_simp
        have kb9_1_2 : w9.cell? ⟨w3.heap.size, 2, none⟩ = some (.slice a3 R.length c3) := by go_simp
        have HB9 := Lib.hid (HB8.out.trans (hN9.mono (by first | exact Nat.le_refl _ | omega)))
        have HR9_p := Lib.hid (HR8_p.out.below hN9 (by first | exact Nat.le_refl _ | omega))
        have HR9_dd := Lib.hid (HR8_dd.out.below hN9 (by first | exact Nat.le_refl _ | omega))
        have HR9_x := Lib.hid (HR8_x.out.below hN9 (by first | exact Nat.le_refl _ | omega))
        have HR9_tt := Lib.hid (HR8_tt.out.below hN9 (by first | exact Nat.le_refl _ | omega))
        have HR9_vv := Lib.hid (HR8_vv.out.below hN9 (by first | exact Nat.le_refl _ | omega))
        clear hc9 hf9 hN9
        have HR9_u := Lib.hid (hI10)
        clear hI10
        go_wp2_with fail
        go_cut [12, 13] from 71 (fun s_ t_ wx => ∃ (b5 B5 C5 : Nat) (a5 : Option Addr) (c5 : Nat), s_ = .pointer (some ⟨b5, 0, none⟩) ∧ t_ = .int .i64 ((l : Nat) : Int) ∧ (w9.heap.size ≤ b5 ∧ b5 < wx.heap.size) ∧ (wx.cell? ⟨b5, 0, none⟩ = some (.int .i64 rp) ∧ wx.cell? ⟨b5, 1, none⟩ = some (.int .i64 rq) ∧ wx.cell? ⟨b5, 2, none⟩ = some (.slice a5 R.length c5)) ∧ IsPairs B5 C5 wx (.slice a5 R.length c5) R ∧ (w9.heap.size ≤ B5 ∧ B5 ≤ C5 ∧ C5 ≤ wx.heap.size) ∧ Below w9.heap.size w9 wx)
        case first =>
          go_region_held3 (fun W_ => W_.cell? ⟨b10, 0, none⟩ = some (.int .i64 up) ∧ W_.cell? ⟨b10, 1, none⟩ = some (.int .i64 uq) ∧ W_.cell? ⟨b10, 2, none⟩ = some (.slice a10 U.length c10))
            ((go_split_ands; refine ⟨?_, ?_, ?_⟩ <;> (repeat (first | with_reducible assumption | with_reducible refine cell_alloc_is _ ?_ | with_reducible refine cell_drew_is ?_ | with_reducible refine cell_set_is ?_ ?_ | omega)); done))
            ((first | (go_at_call 26; refine (HT2.out _ _ _ _ _ _ _ _ (HR9_u.out.below (show Below w9.heap.size w9 _ by (repeat (first | exact Below.refl _ _ | refine Below.setCell ?_ (by first | omega | (simp <;> omega)) _ | refine Below.alloc ?_ (by first | omega | (simp <;> omega)) _ | refine Below.drew ?_ | refine Below.trans ?_ (Below.mono (by assumption) (by first | omega | (simp <;> omega)))))) (by omega)) (HR9_vv.out.below (show Below w9.heap.size w9 _ by (repeat (first | exact Below.refl _ _ | refine Below.setCell ?_ (by first | omega | (simp <;> omega)) _ | refine Below.alloc ?_ (by first | omega | (simp <;> omega)) _ | refine Below.drew ?_ | refine Below.trans ?_ (Below.mono (by assumption) (by first | omega | (simp <;> omega)))))) (by omega))).mono ?_; rintro e w_4 ⟨a4, c4, rfl, hI4, hb_4⟩; obtain ⟨hc_4, hf_4⟩ := bcell hb_4; have hz_4 := hb_4.size; (try simp at hz_4); have kx0 := (hb_4.cell (p := ⟨b10, 0, none⟩) (by first | omega | (simp <;> omega))).trans (show _ = some (.int .i64 up) by (repeat (first | with_reducible assumption | with_reducible refine cell_alloc_is _ ?_ | with_reducible refine cell_drew_is ?_ | with_reducible refine cell_set_is ?_ ?_ | omega))); have kx1 := (hb_4.cell (p := ⟨b10, 1, none⟩) (by first | omega | (simp <;> omega))).trans (show _ = some (.int .i64 uq) by (repeat (first | with_reducible assumption | with_reducible refine cell_alloc_is _ ?_ | with_reducible refine cell_drew_is ?_ | with_reducible refine cell_set_is ?_ ?_ | omega))); have kx2 := (hb_4.cell (p := ⟨b10, 2, none⟩) (by first | omega | (simp <;> omega))).trans (show _ = some (.slice a10 U.length c10) by (repeat (first | with_reducible assumption | with_reducible refine cell_alloc_is _ ?_ | with_reducible refine cell_drew_is ?_ | with_reducible refine cell_set_is ?_ ?_ | omega))); obtain ⟨B4, hB4, hI5⟩ := (⟨_, rfl, hI4⟩ : ∃ B, B = _ ∧ IsPairs B w_4.heap.size w_4 (.slice a4 R.length c4) R); (try simp at hB4); (try have hq_4_w9 : w9.heap.size < w_4.heap.size := by omega)) | fail))
          all_goals (go_wp2_with fail; go_meet)
          all_goals
            case rel =>
              refine ⟨_, B4, w_4.heap.size, a4, c4, rfl, rfl, ⟨?_, ?_⟩, ⟨?_, ?_, ?_⟩, ?_, ⟨?_, ?_, ?_⟩, ?_⟩
              · first | omega | (simp <;> omega)
              · first | omega | (simp <;> omega)
              · go_simp
              · go_simp
              · go_simp
              · (repeat (first | exact hI5 | refine IsPairs.set2 ?_ (by first | omega | (simp <;> omega)) _ | refine IsPairs.allocd ?_ _))
              · first | omega | (simp <;> omega)
              · first | omega | (simp <;> omega)
              · first | omega | (simp <;> omega)
              · (repeat (first | exact Below.refl _ _ | refine Below.setCell ?_ (by first | omega | (simp <;> omega)) _ | refine Below.alloc ?_ (by first | omega | (simp <;> omega)) _ | refine Below.drew ?_ | refine Below.trans ?_ (Below.mono (by assumption) (by first | omega | (simp <;> omega)))))
        rename World => w10
        obtain ⟨b12, B12, C12, a12, c12, rfl, rfl, ⟨hb12a, hb12b⟩, ⟨kq12_0, kq12_1, kq12_2⟩, hI12, ⟨hB12, hC12, hD12⟩, hN10⟩ := hcut
        obtain ⟨hc10, hf10⟩ := bcell hN10
        have hn10 := hN10.size
        have hs10_0 : w1.heap.size < w10.heap.size := by omega
        have hs10_1 : w3.heap.size < w10.heap.size := by omega
        have hs10_2 : b10 < w10.heap.size := by omega
        have kb10_0_0 : w10.cell? ⟨w1.heap.size, 0, none⟩ = some (.int .i64 p) := by go_simp
        have kb10_0_1 : w10.cell? ⟨w1.heap.size, 1, none⟩ = some (.int .i64 q) := by go_simp
        have kb10_0_2 : w10.cell? ⟨w1.heap.size, 2, none⟩ = some (.slice a2 L.length c2) := by go_simp
        have kb10_1_0 : w10.cell? ⟨w3.heap.size, 0, none⟩ = some (.int .i64 rp) := by go_simp
        have kb10_1_1 : w10.cell? ⟨w3.heap.size, 1, none⟩ = some (.int .i64 rq) := by go_simp
        have kb10_1_2 : w10.cell? ⟨w3.heap.size, 2, none⟩ = some (.slice a3 R.length c3) := by go_simp
        have kb10_2_0 : w10.cell? ⟨b10, 0, none⟩ = some (.int .i64 up) := by go_simp
        have kb10_2_1 : w10.cell? ⟨b10, 1, none⟩ = some (.int .i64 uq) := by go_simp
        have kb10_2_2 : w10.cell? ⟨b10, 2, none⟩ = some (.slice a10 U.length c10) := by go_simp
        have HB10 := Lib.hid (HB9.out.trans (hN10.mono (by first | exact Nat.le_refl _ | omega)))
        have HR10_p := Lib.hid (HR9_p.out.below hN10 (by first | exact Nat.le_refl _ | omega))
        have HR10_dd := Lib.hid (HR9_dd.out.below hN10 (by first | exact Nat.le_refl _ | omega))
        have HR10_x := Lib.hid (HR9_x.out.below hN10 (by first | exact Nat.le_refl _ | omega))
        have HR10_tt := Lib.hid (HR9_tt.out.below hN10 (by first | exact Nat.le_refl _ | omega))
        have HR10_vv := Lib.hid (HR9_vv.out.below hN10 (by first | exact Nat.le_refl _ | omega))
        have HR10_u := Lib.hid (HR9_u.out.below hN10 (by first | exact Nat.le_refl _ | omega))
        clear hc10 hf10 hN10
        have HR10_v := Lib.hid (hI12)
        clear hI12
        go_wp2_with fail
        refine (implOk_is _ _ rp rq R _ _ HR10_x.out hRn true HR.out).mono ?_
        rintro e w11 ⟨rfl, hb11⟩
        obtain ⟨hc11, hf11⟩ := bcell hb11
        have hz11 := hb11.size
        try simp at hz11
        have hN11 : Below w10.heap.size w10 w11 := by
          refine Below.trans ?_ (hb11.mono (by first | omega | (simp <;> omega)))
          (repeat (first | exact Below.refl _ _ | refine Below.setCell ?_ (by first | omega | (simp <;> omega)) _ | refine Below.alloc ?_ (by first | omega | (simp <;> omega)) _ | refine Below.drew ?_))
        have hn11 := hN11.size
        have hs11_0 : w1.heap.size < w11.heap.size := by omega
        have hs11_1 : w3.heap.size < w11.heap.size := by omega
        have hs11_2 : b10 < w11.heap.size := by omega
        have hs11_3 : b12 < w11.heap.size := by omega
        have kb11_0_0 : w11.cell? ⟨w1.heap.size, 0, none⟩ = some (.int .i64 p) := by go_simp
        have kb11_0_1 : w11.cell? ⟨w1.heap.size, 1, none⟩ = some (.int .i64 q) := by go_simp
        have kb11_0_2 : w11.cell? ⟨w1.heap.size, 2, none⟩ = some (.slice a2 L.length c2) := by go_simp
        have kb11_1_0 : w11.cell? ⟨w3.heap.size, 0, none⟩ = some (.int .i64 rp) := by go_simp
        have kb11_1_1 : w11.cell? ⟨w3.heap.size, 1, none⟩ = some (.int .i64 rq) := by go_simp
        have kb11_1_2 : w11.cell? ⟨w3.heap.size, 2, none⟩ = some (.slice a3 R.length c3) := by go_simp
        have kb11_2_0 : w11.cell? ⟨b10, 0, none⟩ = some (.int .i64 up) := by go_simp
        have kb11_2_1 : w11.cell? ⟨b10, 1, none⟩ = some (.int .i64 uq) := by go_simp
        have kb11_2_2 : w11.cell? ⟨b10, 2, none⟩ = some (.slice a10 U.length c10) := by go_simp
        have kb11_3_0 : w11.cell? ⟨b12, 0, none⟩ = some (.int .i64 rp) := by go_simp
        have kb11_3_1 : w11.cell? ⟨b12, 1, none⟩ = some (.int .i64 rq) := by go_simp
        have kb11_3_2 : w11.cell? ⟨b12, 2, none⟩ = some (.slice a12 R.length c12) := by go_simp
        have HB11 := Lib.hid (HB10.out.trans (hN11.mono (by first | exact Nat.le_refl _ | omega)))
        have HR11_p := Lib.hid (HR10_p.out.below hN11 (by first | exact Nat.le_refl _ | omega))
        have HR11_dd := Lib.hid (HR10_dd.out.below hN11 (by first | exact Nat.le_refl _ | omega))
        have HR11_x := Lib.hid (HR10_x.out.below hN11 (by first | exact Nat.le_refl _ | omega))
        have HR11_tt := Lib.hid (HR10_tt.out.below hN11 (by first | exact Nat.le_refl _ | omega))
        have HR11_vv := Lib.hid (HR10_vv.out.below hN11 (by first | exact Nat.le_refl _ | omega))
        have HR11_u := Lib.hid (HR10_u.out.below hN11 (by first | exact Nat.le_refl _ | omega))
        have HR11_v := Lib.hid (HR10_v.out.below hN11 (by first | exact Nat.le_refl _ | omega))
        clear hc11 hf11 hb11 hN11 hz11
        go_wp2_with fail
        refine (sameDesk_yes _ _ _ _ rp rq _ _ R _ HR11_v.out HR11_x.out hRn).mono ?_
        rintro e w12 ⟨rfl, hb12⟩
        obtain ⟨hc12, hf12⟩ := bcell hb12
        have hz12 := hb12.size
        try simp at hz12
        have hN12 : Below w11.heap.size w11 w12 := by
          refine Below.trans ?_ (hb12.mono (by first | omega | (simp <;> omega)))
          (repeat (first | exact Below.refl _ _ | refine Below.setCell ?_ (by first | omega | (simp <;> omega)) _ | refine Below.alloc ?_ (by first | omega | (simp <;> omega)) _ | refine Below.drew ?_))
        have hn12 := hN12.size
        have hs12_0 : w1.heap.size < w12.heap.size := by omega
        have hs12_1 : w3.heap.size < w12.heap.size := by omega
        have hs12_2 : b10 < w12.heap.size := by omega
        have hs12_3 : b12 < w12.heap.size := by omega
        have kb12_0_0 : w12.cell? ⟨w1.heap.size, 0, none⟩ = some (.int .i64 p) := by go_simp
        have kb12_0_1 : w12.cell? ⟨w1.heap.size, 1, none⟩ = some (.int .i64 q) := by go_simp
        have kb12_0_2 : w12.cell? ⟨w1.heap.size, 2, none⟩ = some (.slice a2 L.length c2) := by go_simp
        have kb12_1_0 : w12.cell? ⟨w3.heap.size, 0, none⟩ = some (.int .i64 rp) := by go_simp
        have kb12_1_1 : w12.cell? ⟨w3.heap.size, 1, none⟩ = some (.int .i64 rq) := by go_simp
        have kb12_1_2 : w12.cell? ⟨w3.heap.size, 2, none⟩ = some (.slice a3 R.length c3) := by go_simp
        have kb12_2_0 : w12.cell? ⟨b10, 0, none⟩ = some (.int .i64 up) := by go_simp
        have kb12_2_1 : w12.cell? ⟨b10, 1, none⟩ = some (.int .i64 uq) := by go_simp
        have kb12_2_2 : w12.cell? ⟨b10, 2, none⟩ = some (.slice a10 U.length c10) := by go_simp
        have kb12_3_0 : w12.cell? ⟨b12, 0, none⟩ = some (.int .i64 rp) := by go_simp
        have kb12_3_1 : w12.cell? ⟨b12, 1, none⟩ = some (.int .i64 rq) := by go_simp
        have kb12_3_2 : w12.cell? ⟨b12, 2, none⟩ = some (.slice a12 R.length c12) := by go_simp
        have HB12 := Lib.hid (HB11.out.trans (hN12.mono (by first | exact Nat.le_refl _ | omega)))
        have HR12_p := Lib.hid (HR11_p.out.below hN12 (by first | exact Nat.le_refl _ | omega))
        have HR12_dd := Lib.hid (HR11_dd.out.below hN12 (by first | exact Nat.le_refl _ | omega))
        have HR12_x := Lib.hid (HR11_x.out.below hN12 (by first | exact Nat.le_refl _ | omega))
        have HR12_tt := Lib.hid (HR11_tt.out.below hN12 (by first | exact Nat.le_refl _ | omega))
        have HR12_vv := Lib.hid (HR11_vv.out.below hN12 (by first | exact Nat.le_refl _ | omega))
        have HR12_u := Lib.hid (HR11_u.out.below hN12 (by first | exact Nat.le_refl _ | omega))
        have HR12_v := Lib.hid (HR11_v.out.below hN12 (by first | exact Nat.le_refl _ | omega))
        clear hc12 hf12 hb12 hN12 hz12
        go_wp2_with fail
        refine (alive_any _).mono ?_
        rintro e w13 ⟨rfl, hb13⟩
        obtain ⟨hc13, hf13⟩ := bcell hb13
        have hz13 := hb13.size
        try simp at hz13
        have hN13 : Below w12.heap.size w12 w13 := by
          refine Below.trans ?_ (hb13.mono (by first | omega | (simp <;> omega)))
          (repeat (first | exact Below.refl _ _ | refine Below.setCell ?_ (by first | omega | (simp <;> omega)) _ | refine Below.alloc ?_ (by first | omega | (simp <;> omega)) _ | refine Below.drew ?_))
        have hn13 := hN13.size
        have hs13_0 : w1.heap.size < w13.heap.size := by omega
        have hs13_1 : w3.heap.size < w13.heap.size := by omega
        have hs13_2 : b10 < w13.heap.size := by omega
        have hs13_3 : b12 < w13.heap.size := by omega
        have kb13_0_0 : w13.cell? ⟨w1.heap.size, 0, none⟩ = some (.int .i64 p) := by go_simp
        have kb13_0_1 : w13.cell? ⟨w1.heap.size, 1, none⟩ = some (.int .i64 q) := by go_simp
        have kb13_0_2 : w13.cell? ⟨w1.heap.size, 2, none⟩ = some (.slice a2 L.length c2) := by go_simp
        have kb13_1_0 : w13.cell? ⟨w3.heap.size, 0, none⟩ = some (.int .i64 rp) := by go_simp
        have kb13_1_1 : w13.cell? ⟨w3.heap.size, 1, none⟩ = some (.int .i64 rq) := by go_simp
        have kb13_1_2 : w13.cell? ⟨w3.heap.size, 2, none⟩ = some (.slice a3 R.length c3) := by go_simp
        have kb13_2_0 : w13.cell? ⟨b10, 0, none⟩ = some (.int .i64 up) := by go_simp
        have kb13_2_1 : w13.cell? ⟨b10, 1, none⟩ = some (.int .i64 uq) := by go_simp
        have kb13_2_2 : w13.cell? ⟨b10, 2, none⟩ = some (.slice a10 U.length c10) := by go_simp
        have kb13_3_0 : w13.cell? ⟨b12, 0, none⟩ = some (.int .i64 rp) := by go_simp
        have kb13_3_1 : w13.cell? ⟨b12, 1, none⟩ = some (.int .i64 rq) := by go_simp
        have kb13_3_2 : w13.cell? ⟨b12, 2, none⟩ = some (.slice a12 R.length c12) := by go_simp
        have HB13 := Lib.hid (HB12.out.trans (hN13.mono (by first | exact Nat.le_refl _ | omega)))
        have HR13_p := Lib.hid (HR12_p.out.below hN13 (by first | exact Nat.le_refl _ | omega))
        have HR13_dd := Lib.hid (HR12_dd.out.below hN13 (by first | exact Nat.le_refl _ | omega))
        have HR13_x := Lib.hid (HR12_x.out.below hN13 (by first | exact Nat.le_refl _ | omega))
        have HR13_tt := Lib.hid (HR12_tt.out.below hN13 (by first | exact Nat.le_refl _ | omega))
        have HR13_vv := Lib.hid (HR12_vv.out.below hN13 (by first | exact Nat.le_refl _ | omega))
        have HR13_u := Lib.hid (HR12_u.out.below hN13 (by first | exact Nat.le_refl _ | omega))
        have HR13_v := Lib.hid (HR12_v.out.below hN13 (by first | exact Nat.le_refl _ | omega))
        clear hc13 hf13 hb13 hN13 hz13
        go_wp2
        go_ret
        exact ⟨rfl, HB13.out⟩
    · have h0 : runR ⟨(p, q), L⟩ X = (⟨(0, 0), []⟩, 0) := runR_no (fun e => hyes ⟨hdk ▸ e.1, e.2⟩)
      rw [hres] at h0
      have e1 : n = 0 := congrArg Prod.snd h0
      have e2 : (⟨(rp, rq), R⟩ : DeskN) = ⟨(0, 0), []⟩ := congrArg Prod.fst h0
      have hZ : ∀ (w : World) (a : Option Addr) (c : Nat), Calls Try.prog 19 #[.agg #[.int .i64 rp, .int .i64 rq, .slice a R.length c]] w fun e w' => e = .returned (.bool true) ∧ Below w.heap.size w w' := by
        injection e2 with e3 e4
        injection e3 with e5 e6
        rw [e4, e5, e6]
        exact fun w a c => noDesk_zero w a c
      have HZ := Lib.hid hZ
      subst e1
      clear hZ e2 h0 hres
      cases dk with
      | false =>
        clear hdk hyes
        go_wp2_with fail
        refine (specOk_is _ _ p q L _ _ HR7_p.out hn false HD.out).mono ?_
        rintro e w8 ⟨rfl, hb8⟩
        obtain ⟨hc8, hf8⟩ := bcell hb8
        have hz8 := hb8.size
        try simp at hz8
        have hN8 : Below w7.heap.size w7 w8 := by
          refine Below.trans ?_ (hb8.mono (by first | omega | (simp <;> omega)))
          (repeat (first | exact Below.refl _ _ | refine Below.setCell ?_ (by first | omega | (simp <;> omega)) _ | refine Below.alloc ?_ (by first | omega | (simp <;> omega)) _ | refine Below.drew ?_))
        have hn8 := hN8.size
        have hs8_0 : w1.heap.size < w8.heap.size := by omega
        have hs8_1 : w3.heap.size < w8.heap.size := by omega
        have kb8_0_0 : w8.cell? ⟨w1.heap.size, 0, none⟩ = some (.int .i64 p) := by go_simp
        have kb8_0_1 : w8.cell? ⟨w1.heap.size, 1, none⟩ = some (.int .i64 q) := by go_simp
        have kb8_0_2 : w8.cell? ⟨w1.heap.size, 2, none⟩ = some (.slice a2 L.length c2) := by go_simp
        have kb8_1_0 : w8.cell? ⟨w3.heap.size, 0, none⟩ = some (.int .i64 rp) := by go_simp
        have kb8_1_1 : w8.cell? ⟨w3.heap.size, 1, none⟩ = some (.int .i64 rq) := by go_simp
        have kb8_1_2 : w8.cell? ⟨w3.heap.size, 2, none⟩ = some (.slice a3 R.length c3) := by go_simp
        have HB8 := Lib.hid (HB7.out.trans (hN8.mono (by first | exact Nat.le_refl _ | omega)))
        have HR8_p := Lib.hid (HR7_p.out.below hN8 (by first | exact Nat.le_refl _ | omega))
        have HR8_dd := Lib.hid (HR7_dd.out.below hN8 (by first | exact Nat.le_refl _ | omega))
        have HR8_x := Lib.hid (HR7_x.out.below hN8 (by first | exact Nat.le_refl _ | omega))
        clear hc8 hf8 hb8 hN8 hz8
        go_wp2_with fail
        refine (HZ.out _ _ _).mono ?_
        rintro e w9 ⟨rfl, hb9⟩
        obtain ⟨hc9, hf9⟩ := bcell hb9
        have hz9 := hb9.size
        try simp at hz9
        have hN9 : Below w8.heap.size w8 w9 := by
          refine Below.trans ?_ (hb9.mono (by first | omega | (simp <;> omega)))
          (repeat (first | exact Below.refl _ _ | refine Below.setCell ?_ (by first | omega | (simp <;> omega)) _ | refine Below.alloc ?_ (by first | omega | (simp <;> omega)) _ | refine Below.drew ?_))
        have hn9 := hN9.size
        have hs9_0 : w1.heap.size < w9.heap.size := by omega
        have hs9_1 : w3.heap.size < w9.heap.size := by omega
        have kb9_0_0 : w9.cell? ⟨w1.heap.size, 0, none⟩ = some (.int .i64 p) := by go_simp
        have kb9_0_1 : w9.cell? ⟨w1.heap.size, 1, none⟩ = some (.int .i64 q) := by go_simp
        have kb9_0_2 : w9.cell? ⟨w1.heap.size, 2, none⟩ = some (.slice a2 L.length c2) := by go_simp
        have kb9_1_0 : w9.cell? ⟨w3.heap.size, 0, none⟩ = some (.int .i64 rp) := by go_simp
        have kb9_1_1 : w9.cell? ⟨w3.heap.size, 1, none⟩ = some (.int .i64 rq) := by go_simp
        have kb9_1_2 : w9.cell? ⟨w3.heap.size, 2, none⟩ = some (.slice a3 R.length c3) := by go_simp
        have HB9 := Lib.hid (HB8.out.trans (hN9.mono (by first | exact Nat.le_refl _ | omega)))
        have HR9_p := Lib.hid (HR8_p.out.below hN9 (by first | exact Nat.le_refl _ | omega))
        have HR9_dd := Lib.hid (HR8_dd.out.below hN9 (by first | exact Nat.le_refl _ | omega))
        have HR9_x := Lib.hid (HR8_x.out.below hN9 (by first | exact Nat.le_refl _ | omega))
        clear hc9 hf9 hb9 hN9 hz9
        go_wp2_with fail
        refine (alive_any _).mono ?_
        rintro e w10 ⟨rfl, hb10⟩
        obtain ⟨hc10, hf10⟩ := bcell hb10
        have hz10 := hb10.size
        try simp at hz10
        have hN10 : Below w9.heap.size w9 w10 := by
          refine Below.trans ?_ (hb10.mono (by first | omega | (simp <;> omega)))
          (repeat (first | exact Below.refl _ _ | refine Below.setCell ?_ (by first | omega | (simp <;> omega)) _ | refine Below.alloc ?_ (by first | omega | (simp <;> omega)) _ | refine Below.drew ?_))
        have hn10 := hN10.size
        have hs10_0 : w1.heap.size < w10.heap.size := by omega
        have hs10_1 : w3.heap.size < w10.heap.size := by omega
        have kb10_0_0 : w10.cell? ⟨w1.heap.size, 0, none⟩ = some (.int .i64 p) := by go_simp
        have kb10_0_1 : w10.cell? ⟨w1.heap.size, 1, none⟩ = some (.int .i64 q) := by go_simp
        have kb10_0_2 : w10.cell? ⟨w1.heap.size, 2, none⟩ = some (.slice a2 L.length c2) := by go_simp
        have kb10_1_0 : w10.cell? ⟨w3.heap.size, 0, none⟩ = some (.int .i64 rp) := by go_simp
        have kb10_1_1 : w10.cell? ⟨w3.heap.size, 1, none⟩ = some (.int .i64 rq) := by go_simp
        have kb10_1_2 : w10.cell? ⟨w3.heap.size, 2, none⟩ = some (.slice a3 R.length c3) := by go_simp
        have HB10 := Lib.hid (HB9.out.trans (hN10.mono (by first | exact Nat.le_refl _ | omega)))
        have HR10_p := Lib.hid (HR9_p.out.below hN10 (by first | exact Nat.le_refl _ | omega))
        have HR10_dd := Lib.hid (HR9_dd.out.below hN10 (by first | exact Nat.le_refl _ | omega))
        have HR10_x := Lib.hid (HR9_x.out.below hN10 (by first | exact Nat.le_refl _ | omega))
        clear hc10 hf10 hb10 hN10 hz10
        go_wp2
        go_ret
        exact ⟨rfl, HB10.out⟩
      | true =>
        have h40n : 40 < X.length := Nat.lt_of_not_le (fun e => hyes ⟨rfl, e⟩)
        have h40 : ((40 : Int) < (X.length : Int)) := by omega
        clear hdk hyes
        go_wp2_with fail
        refine (specOk_is _ _ p q L _ _ HR7_p.out hn true HD.out).mono ?_
        rintro e w8 ⟨rfl, hb8⟩
        obtain ⟨hc8, hf8⟩ := bcell hb8
        have hz8 := hb8.size
        try simp at hz8
        have hN8 : Below w7.heap.size w7 w8 := by
          refine Below.trans ?_ (hb8.mono (by first | omega | (simp <;> omega)))
          (repeat (first | exact Below.refl _ _ | refine Below.setCell ?_ (by first | omega | (simp <;> omega)) _ | refine Below.alloc ?_ (by first | omega | (simp <;> omega)) _ | refine Below.drew ?_))
        have hn8 := hN8.size
        have hs8_0 : w1.heap.size < w8.heap.size := by omega
        have hs8_1 : w3.heap.size < w8.heap.size := by omega
        have kb8_0_0 : w8.cell? ⟨w1.heap.size, 0, none⟩ = some (.int .i64 p) := by go_simp
        have kb8_0_1 : w8.cell? ⟨w1.heap.size, 1, none⟩ = some (.int .i64 q) := by go_simp
        have kb8_0_2 : w8.cell? ⟨w1.heap.size, 2, none⟩ = some (.slice a2 L.length c2) := by go_simp
        have kb8_1_0 : w8.cell? ⟨w3.heap.size, 0, none⟩ = some (.int .i64 rp) := by go_simp
        have kb8_1_1 : w8.cell? ⟨w3.heap.size, 1, none⟩ = some (.int .i64 rq) := by go_simp
        have kb8_1_2 : w8.cell? ⟨w3.heap.size, 2, none⟩ = some (.slice a3 R.length c3) := by go_simp
        have HB8 := Lib.hid (HB7.out.trans (hN8.mono (by first | exact Nat.le_refl _ | omega)))
        have HR8_p := Lib.hid (HR7_p.out.below hN8 (by first | exact Nat.le_refl _ | omega))
        have HR8_dd := Lib.hid (HR7_dd.out.below hN8 (by first | exact Nat.le_refl _ | omega))
        have HR8_x := Lib.hid (HR7_x.out.below hN8 (by first | exact Nat.le_refl _ | omega))
        clear hc8 hf8 hb8 hN8 hz8
        go_wp2_with fail
        refine (HZ.out _ _ _).mono ?_
        rintro e w9 ⟨rfl, hb9⟩
        obtain ⟨hc9, hf9⟩ := bcell hb9
        have hz9 := hb9.size
        try simp at hz9
        have hN9 : Below w8.heap.size w8 w9 := by
          refine Below.trans ?_ (hb9.mono (by first | omega | (simp <;> omega)))
          (repeat (first | exact Below.refl _ _ | refine Below.setCell ?_ (by first | omega | (simp <;> omega)) _ | refine Below.alloc ?_ (by first | omega | (simp <;> omega)) _ | refine Below.drew ?_))
        have hn9 := hN9.size
        have hs9_0 : w1.heap.size < w9.heap.size := by omega
        have hs9_1 : w3.heap.size < w9.heap.size := by omega
        have kb9_0_0 : w9.cell? ⟨w1.heap.size, 0, none⟩ = some (.int .i64 p) := by go_simp
        have kb9_0_1 : w9.cell? ⟨w1.heap.size, 1, none⟩ = some (.int .i64 q) := by go_simp
        have kb9_0_2 : w9.cell? ⟨w1.heap.size, 2, none⟩ = some (.slice a2 L.length c2) := by go_simp
        have kb9_1_0 : w9.cell? ⟨w3.heap.size, 0, none⟩ = some (.int .i64 rp) := by go_simp
        have kb9_1_1 : w9.cell? ⟨w3.heap.size, 1, none⟩ = some (.int .i64 rq) := by go_simp
        have kb9_1_2 : w9.cell? ⟨w3.heap.size, 2, none⟩ = some (.slice a3 R.length c3) := by go_simp
        have HB9 := Lib.hid (HB8.out.trans (hN9.mono (by first | exact Nat.le_refl _ | omega)))
        have HR9_p := Lib.hid (HR8_p.out.below hN9 (by first | exact Nat.le_refl _ | omega))
        have HR9_dd := Lib.hid (HR8_dd.out.below hN9 (by first | exact Nat.le_refl _ | omega))
        have HR9_x := Lib.hid (HR8_x.out.below hN9 (by first | exact Nat.le_refl _ | omega))
        clear hc9 hf9 hb9 hN9 hz9
        go_wp2_with fail
        refine (alive_any _).mono ?_
        rintro e w10 ⟨rfl, hb10⟩
        obtain ⟨hc10, hf10⟩ := bcell hb10
        have hz10 := hb10.size
        try simp at hz10
        have hN10 : Below w9.heap.size w9 w10 := by
          refine Below.trans ?_ (hb10.mono (by first | omega | (simp <;> omega)))
          (repeat (first | exact Below.refl _ _ | refine Below.setCell ?_ (by first | omega | (simp <;> omega)) _ | refine Below.alloc ?_ (by first | omega | (simp <;> omega)) _ | refine Below.drew ?_))
        have hn10 := hN10.size
        have hs10_0 : w1.heap.size < w10.heap.size := by omega
        have hs10_1 : w3.heap.size < w10.heap.size := by omega
        have kb10_0_0 : w10.cell? ⟨w1.heap.size, 0, none⟩ = some (.int .i64 p) := by go_simp
        have kb10_0_1 : w10.cell? ⟨w1.heap.size, 1, none⟩ = some (.int .i64 q) := by go_simp
        have kb10_0_2 : w10.cell? ⟨w1.heap.size, 2, none⟩ = some (.slice a2 L.length c2) := by go_simp
        have kb10_1_0 : w10.cell? ⟨w3.heap.size, 0, none⟩ = some (.int .i64 rp) := by go_simp
        have kb10_1_1 : w10.cell? ⟨w3.heap.size, 1, none⟩ = some (.int .i64 rq) := by go_simp
        have kb10_1_2 : w10.cell? ⟨w3.heap.size, 2, none⟩ = some (.slice a3 R.length c3) := by go_simp
        have HB10 := Lib.hid (HB9.out.trans (hN10.mono (by first | exact Nat.le_refl _ | omega)))
        have HR10_p := Lib.hid (HR9_p.out.below hN10 (by first | exact Nat.le_refl _ | omega))
        have HR10_dd := Lib.hid (HR9_dd.out.below hN10 (by first | exact Nat.le_refl _ | omega))
        have HR10_x := Lib.hid (HR9_x.out.below hN10 (by first | exact Nat.le_refl _ | omega))
        clear hc10 hf10 hb10 hN10 hz10
        go_wp2
        go_ret
        exact ⟨rfl, HB10.out⟩
end Go.Proofs.Ytigcomhhgfgmgaa
