/- PowerLeft and RowLeft of the program: what they return. -/
import Derived.Test.YtgcpmgddlaeccaaFarImpl
import Derived.Test.YtgcpmgddlaeccaaPowImpl
namespace Go.Proofs.Ytgcpmgddlaeccaa
open Go.RowKit Go.Shelf
set_option maxHeartbeats 4000000 in
theorem implPowerLeft_any (a t m : Int) (w : World) :
    Calls Try.prog 21 #[.int .i64 a, .int .i64 t, .int .i64 m] w fun e w' => e = .returned (.int .i64 (powLeftV a t m)) ∧ Below w.heap.size w w' := by
  cases h : powB a t m with
  | true =>
    obtain ⟨⟨a1, a2⟩, ⟨k, rfl, hk⟩, m1, m2⟩ := powB_true h
    rw [show powLeftV a k m = a ^ k % m by rw [powLeftV, if_pos h]; rfl]
    exact implPowerLeft_yes a m k w a1 a2 hk m1 m2
  | false =>
    have HV := Lib.hid (show powLeftV a t m = -1 by rw [powLeftV, if_neg (by simp [h])])
    rw [HV.out]
    rcases powB_ways h with hp | ⟨hp, ha⟩ | ⟨hp, ha, hb⟩
    · rcases inB_false hp with hp' | hp'
      · clear hp h
        go_enter Try.func21, Try.ntmps21
        go_wp2
        go_ret
        exact ⟨rfl, by (repeat (first | exact Below.refl _ _ | refine Below.setCell ?_ (by first | omega | (simp <;> omega)) _ | refine Below.alloc ?_ (by first | omega | (simp <;> omega)) _ | refine Below.drew ?_ | refine Below.trans ?_ (Below.mono (by assumption) (by first | omega | (simp <;> omega))) | refine Below.grown ?_ (by assumption) (by first | omega | (simp <;> omega)) (fun k e => by cases e; first | omega | (simp <;> omega))))⟩
      · have hq : ¬ a < -10000 := by omega
        clear hp h
        go_enter Try.func21, Try.ntmps21
        go_wp2
        go_ret
        exact ⟨rfl, by (repeat (first | exact Below.refl _ _ | refine Below.setCell ?_ (by first | omega | (simp <;> omega)) _ | refine Below.alloc ?_ (by first | omega | (simp <;> omega)) _ | refine Below.drew ?_ | refine Below.trans ?_ (Below.mono (by assumption) (by first | omega | (simp <;> omega))) | refine Below.grown ?_ (by assumption) (by first | omega | (simp <;> omega)) (fun k e => by cases e; first | omega | (simp <;> omega))))⟩
    · obtain ⟨a1, a2⟩ := inB_true hp
      have HA := Lib.hid ha
      clear hp ha h
      go_enter Try.func21, Try.ntmps21
      go_wp2_with fail
      refine (farOk_is _ false _ HA.out).mono ?_
      rintro e wx ⟨rfl, rfl⟩
      go_wp2
      go_ret
      exact ⟨rfl, by (repeat (first | exact Below.refl _ _ | refine Below.setCell ?_ (by first | omega | (simp <;> omega)) _ | refine Below.alloc ?_ (by first | omega | (simp <;> omega)) _ | refine Below.drew ?_ | refine Below.trans ?_ (Below.mono (by assumption) (by first | omega | (simp <;> omega))) | refine Below.grown ?_ (by assumption) (by first | omega | (simp <;> omega)) (fun k e => by cases e; first | omega | (simp <;> omega))))⟩
    · obtain ⟨a1, a2⟩ := inB_true hp
      have HA := Lib.hid ha
      have HB := Lib.hid hb
      clear hp ha hb h
      go_enter Try.func21, Try.ntmps21
      go_wp2_with fail
      refine (farOk_is _ true _ HA.out).mono ?_
      rintro e wx ⟨rfl, rfl⟩
      go_wp2_with fail
      refine (byOk_is _ false _ HB.out).mono ?_
      rintro e wx ⟨rfl, rfl⟩
      go_wp2
      go_ret
      exact ⟨rfl, by (repeat (first | exact Below.refl _ _ | refine Below.setCell ?_ (by first | omega | (simp <;> omega)) _ | refine Below.alloc ?_ (by first | omega | (simp <;> omega)) _ | refine Below.drew ?_ | refine Below.trans ?_ (Below.mono (by assumption) (by first | omega | (simp <;> omega))) | refine Below.grown ?_ (by assumption) (by first | omega | (simp <;> omega)) (fun k e => by cases e; first | omega | (simp <;> omega))))⟩
/-- The list when j of its n numbers have been set. -/
def ListIs (G n j : Nat) (f : Nat → Int) (W : World) : Prop :=
  (∀ x, x < j → W.cell? ⟨G, x, none⟩ = some (.int .i64 (f x))) ∧ (∀ x, j ≤ x → x < n → W.cell? ⟨G, x, none⟩ = some (.int .i64 0)) ∧ (∀ x, x < n → W.frozen? ⟨G, x, none⟩ = false)
theorem ListIs.at {G n j : Nat} {f : Nat → Int} {W : World} (h : ListIs G n j f W) (hj : j < n) : W.cell? ⟨G, j, none⟩ = some (.int .i64 0) ∧ W.frozen? ⟨G, j, none⟩ = false := ⟨h.2.1 j (Nat.le_refl _) hj, h.2.2 j hj⟩
theorem ListIs.set {G n j : Nat} {f : Nat → Int} {W : World} (h : ListIs G n j f W) (hj : j < n) (v : Int) (hv : v = f j) : ListIs G n (j + 1) f (W.setCell ⟨G, j, none⟩ (.int .i64 v)) := by
  subst hv
  refine ⟨fun x hx => ?_, fun x h1 h2 => ?_, fun x hx => ?_⟩
  · by_cases e : x = j
    · subst e; exact set_same (h.at hj).1
    · exact (World.cell?_setCell_other _ ⟨G, j, none⟩ ⟨G, x, none⟩ _ (fun e' => by injection e'; omega)).trans (h.1 x (by omega))
  · exact (World.cell?_setCell_other _ ⟨G, j, none⟩ ⟨G, x, none⟩ _ (fun e' => by injection e'; omega)).trans (h.2.1 x (by omega) h2)
  · exact set_frozen (h.2.2 x hx)
theorem ListIs.other {G n j S o : Nat} {f : Nat → Int} {W : World} {v : Value} (h : ListIs G n j f W) (hS : G ≠ S) : ListIs G n j f (W.setCell ⟨S, o, none⟩ v) :=
  ⟨fun x hx => (set_other hS).trans (h.1 x hx), fun x h1 h2 => (set_other hS).trans (h.2.1 x h1 h2), fun x hx => set_frozen (h.2.2 x hx)⟩
theorem ListIs.below {G n j : Nat} {f : Nat → Int} {W W' : World} (h : ListIs G n j f W) (hb : Below W.heap.size W W') (hG : G < W.heap.size) : ListIs G n j f W' :=
  ⟨fun x hx => (hb.cell (p := ⟨G, x, none⟩) hG).trans (h.1 x hx), fun x h1 h2 => (hb.cell (p := ⟨G, x, none⟩) hG).trans (h.2.1 x h1 h2), fun x hx => (hb.frozen (p := ⟨G, x, none⟩) hG).trans (h.2.2 x hx)⟩
theorem ListIs.ints {G n B : Nat} {f : Nat → Int} {W : World} (h : ListIs G n n f W) (hB : B ≤ G) (hG : G < W.heap.size) (c : Nat) : IsInts B W.heap.size W (.slice (some ⟨G, 0, none⟩) n c) n f :=
  ⟨_, c, rfl, Nat.le_refl _, .inr ⟨G, 0, rfl, hB, hG, fun i hi => by rw [Nat.zero_add]; exact h.1 i hi, fun i hi => by rw [Nat.zero_add]; exact h.2.2 i hi⟩⟩
theorem madeCells_at (n x : Nat) (h : x < n) : (madeCells #[.int .i64 0] n)[x]? = some (.int .i64 0) := by
  rw [← Array.getElem?_toList, toList_madeCells_one]
  simp [h]
theorem ListIs.made {n : Nat} {f : Nat → Int} (W : World) (t : TypeId) : ListIs W.heap.size n 0 f (W.alloc (.cells (madeCells #[.int .i64 0] n) t)) := by
  refine ⟨fun x hx => absurd hx (by omega), fun x _ hx => ?_, fun x hx => ?_⟩
  · have := heap_alloc_new W (.cells (madeCells #[.int .i64 0] n) t)
    simp only [World.cell?, this]
    simp [madeCells_at n x hx]
  · have := heap_alloc_new W (.cells (madeCells #[.int .i64 0] n) t)
    simp only [World.frozen?, this]
    simp
set_option maxRecDepth 100000 in
set_option maxHeartbeats 4000000 in
theorem implRowLeft_yes (p q m : Int) (n : Nat) (w : World) (h : rowLeftB p q n m = true) :
    Calls Try.prog 26 #[pr p q, .int .i64 n, .int .i64 m] w (RowLeftOf p q n m w) := by
  obtain ⟨i0, hi0, hz0, hzs1, hz2⟩ := info_parts info_int
  obtain ⟨hp, ⟨k, hk, hk2⟩, m1, m2⟩ := rowLeftB_true h
  obtain rfl : n = k := by omega
  obtain ⟨⟨r1, r2⟩, r3, r4⟩ := pairB_true hp
  have HN := Lib.hid (show rowLeftN p q n m = n + 1 by rw [rowLeftN, if_pos h]; rfl)
  have HB := Lib.hid (inB_mk (n := m) (a := 1) (b := 10000) m1 m2)
  have HP := Lib.hid hp
  have hmk : ∀ W : World, (Instr.makeSlice 29 (.int .i64 ((n : Int) + 1)) (.int .i64 ((n : Int) + 1))).run Try.prog W = .ok (.slice (some ⟨W.heap.size, 0, none⟩) (n + 1) (n + 1)) (W.alloc (.cells (madeCells #[.int .i64 0] (n + 1)) 3)) := by
    intro W
    have hr := run_make W 29 3 i0 (.int .i64 0) Try.underlying29 hi0 hz0 .i64 .i64 ((n : Int) + 1) ((n : Int) + 1) (by omega) (by omega) (by rw [hz2]; omega) (by omega)
    rw [hzs1, show ((n : Int) + 1).toNat = n + 1 by omega, Nat.mul_one] at hr
    exact hr
  clear hp h hk hi0 hz0 hzs1 hz2 i0
  go_enter Try.func26, Try.ntmps26
  go_wp2_with fail
  refine (implPairOk_yes p q _ HP.out).mono ?_
  rintro e w1 ⟨rfl, hh1⟩
  obtain ⟨hc1, hf1⟩ := bcell hh1
  have hz1 := hh1.size
  try simp only [World.size_alloc] at hz1
  have hz1_0 : w.heap.size < w1.heap.size := by omega
  have kb1_0_0 : w1.cell? ⟨w.heap.size, 0, none⟩ = some (.int .i64 p) := by go_simp
  have kf1_0_0 : w1.frozen? ⟨w.heap.size, 0, none⟩ = false := by go_simp
  have kb1_0_1 : w1.cell? ⟨w.heap.size, 1, none⟩ = some (.int .i64 q) := by go_simp
  have kf1_0_1 : w1.frozen? ⟨w.heap.size, 1, none⟩ = false := by go_simp
  clear hc1 hf1
  go_wp2_with fail
  refine (byOk_is _ true _ HB.out).mono ?_
  rintro e wx ⟨rfl, rfl⟩
  go_wp2_with fail
  refine (leftAtStart_at m _ m1 m2).mono ?_
  rintro e w2 ⟨rfl, hh2⟩
  have hz2 := hh2.size
  simp only [World.size_alloc] at hz2
  have hL := (ListIs.made (n := n + 1) (f := fun i => row p q 0 1 i % m) w1 3).below hh2 (by simp)
  have kp : w2.cell? ⟨w.heap.size, 0, none⟩ = some (.int .i64 p) := (hh2.cell (p := ⟨w.heap.size, 0, none⟩) (by simp; omega)).trans ((World.cell?_alloc_past _ _ _ hz1_0).trans kb1_0_0)
  have kq : w2.cell? ⟨w.heap.size, 1, none⟩ = some (.int .i64 q) := (hh2.cell (p := ⟨w.heap.size, 1, none⟩) (by simp; omega)).trans ((World.cell?_alloc_past _ _ _ hz1_0).trans kb1_0_1)
  have hB : Below w.heap.size w w2 := by (repeat (first | exact Below.refl _ _ | refine Below.setCell ?_ (by first | omega | (simp <;> omega)) _ | refine Below.alloc ?_ (by first | omega | (simp <;> omega)) _ | refine Below.drew ?_ | refine Below.trans ?_ (Below.mono (by assumption) (by first | omega | (simp <;> omega))) | refine Below.grown ?_ (by assumption) (by first | omega | (simp <;> omega)) (fun k e => by cases e; first | omega | (simp <;> omega))))
  clear hh1 hh2 kb1_0_0 kb1_0_1 kf1_0_0 kf1_0_1
  have HL := Lib.hid hL
  have hG2 : w1.heap.size < w2.heap.size := by omega
  clear hL
  go_wp2_with fail
  go_loopw [9, 33] (fun o c wr => ∃ j : Nat, j ≤ n + 1 ∧ c = .int .i64 j ∧ StateIs w2.heap.size (row p q 0 1 j % m) (row p q 0 1 (j + 1) % m) wr ∧ ListIs w1.heap.size (n + 1) j (fun i => row p q 0 1 i % m) wr ∧
      (wr.cell? ⟨w.heap.size, 0, none⟩ = some (.int .i64 p) ∧ wr.cell? ⟨w.heap.size, 1, none⟩ = some (.int .i64 q)) ∧ Below w.heap.size w wr) (fun _ c _ => 300 - (intOf c).toNat)
  case atStart =>
    have e0 : row p q 0 1 0 % m = 0 := by simp [row]
    have e1 : row p q 0 1 (0 + 1) % m = 1 % m := by simp [row]
    have hb2 : Below w2.heap.size w2 (w2.alloc (.cells #[.int .i64 0, .int .i64 (1 % m)] 52)) := (Below.refl _ _).alloc (Nat.le_refl _) _
    refine ⟨0, Nat.zero_le _, rfl, ?_, HL.out.below hb2 hG2, ⟨cell_below hb2 kp, cell_below hb2 kq⟩, hB.trans (hb2.mono hB.size)⟩
    rw [e0, e1]
    exact ⟨by go_simp, by go_simp, by go_simp, by go_simp⟩
  case round =>
    obtain ⟨j, hj, rfl, hst, hl, ⟨cp, cq⟩, hW⟩ := hrel
    clear kp kq HL hB
    by_cases hlt : j < n + 1
    · obtain ⟨l1, l2⟩ := hl.at hlt
      have lg := World.block_lt_of_cell? _ _ l1
      dsimp only at lg
      obtain ⟨a1, a2⟩ := left_bd (row p q 0 1 j) m m1
      obtain ⟨b1, b2⟩ := left_bd (row p q 0 1 (j + 1)) m m1
      have E := Lib.hid (far_next p q m j)
      have HST := Lib.hid hst
      have HL := Lib.hid hl
      have HW := Lib.hid hW
      obtain ⟨y1, y2, y3, y4⟩ := hst
      have o1 : ¬ w.heap.size = w1.heap.size := by omega
      have o2 : ¬ w2.heap.size = w1.heap.size := by omega
      have o3 : ¬ w1.heap.size = w2.heap.size := by omega
      clear hl hW
      go_wp2_with fail
      refine (goneOn_at _ _ p q m r1 r2 r3 r4 m1 m2 a1 a2 b1 b2 _ _ E.out).mono ?_
      rintro e w3 ⟨rfl, hh3⟩
      have hl3 := (HL.out.set hlt _ rfl).below hh3 (by simpa [World.setCell] using lg)
      have hs3 : StateIs w2.heap.size (row p q 0 1 j % m) (row p q 0 1 (j + 1) % m) w3 := by
        have s1 : StateIs w2.heap.size (row p q 0 1 j % m) (row p q 0 1 (j + 1) % m) (wr.setCell ⟨w1.heap.size, j, none⟩ (.int .i64 (row p q 0 1 j % m))) := ⟨(set_other (by omega)).trans y1, (set_other (by omega)).trans y2, set_frozen y3, set_frozen y4⟩
        exact s1.below hh3
      have p3 := cell_below hh3 ((set_other (by omega)).trans cp)
      have q3 := cell_below hh3 ((set_other (by omega)).trans cq)
      have hB3 : Below w.heap.size w w3 := by
        have h := HW.out.setCell (p := ⟨w1.heap.size, j, none⟩) (by show w.heap.size ≤ w1.heap.size; omega) (.int .i64 (row p q 0 1 j % m))
        exact h.trans (hh3.mono h.size)
      have HL3 := Lib.hid hl3
      have HS3 := Lib.hid hs3
      have HB3 := Lib.hid hB3
      obtain ⟨t1, t2, t3, t4⟩ := hs3
      clear hh3 hl3 hB3 y1 y2 y3 y4 cp cq l1 l2 HST HL HW
      go_wp2
      go_roundw
      case rel =>
        refine ⟨j + 1, by omega, congrArg (Value.int .i64) (by omega), HS3.out.set _ _, (HL3.out.other (by omega)).other (by omega), ⟨(set_other (by omega)).trans ((set_other (by omega)).trans p3), (set_other (by omega)).trans ((set_other (by omega)).trans q3)⟩, ?_⟩
        exact (HB3.out.setCell (by show w.heap.size ≤ w2.heap.size; omega) _).setCell (by show w.heap.size ≤ w2.heap.size; omega) _
      case measure => simp [intOf]; omega
    · obtain rfl : j = n + 1 := by omega
      have lg := World.block_lt_of_cell? _ _ (hl.1 0 (by omega))
      dsimp only at lg
      have HL := Lib.hid hl
      have HW := Lib.hid hW
      clear hl hW
      go_wp2
      go_ret
      exact ⟨_, rfl, by rw [HN.out]; exact HL.out.ints (by omega) lg _, HW.out⟩
set_option maxHeartbeats 4000000 in
theorem implRowLeft_no (p q n m : Int) (w : World) (h : rowLeftB p q n m = false) :
    Calls Try.prog 26 #[pr p q, .int .i64 n, .int .i64 m] w (RowLeftOf p q n m w) := by
  have HV := Lib.hid (show rowLeftN p q n m = 0 by rw [rowLeftN, if_neg (by simp [h])])
  rcases rowLeftB_ways h with hp | ⟨hp, ha⟩ | ⟨hp, ha, hb⟩
  · have HP := Lib.hid hp
    clear hp h
    go_enter Try.func26, Try.ntmps26
    go_wp2_with fail
    refine (implPairOk_no p q _ HP.out).mono ?_
    rintro e w1 ⟨rfl, hh1⟩
    obtain ⟨hc1, hf1⟩ := bcell hh1
    have hz1 := hh1.size
    try simp only [World.size_alloc] at hz1
    have hz1_0 : w.heap.size < w1.heap.size := by omega
    have kb1_0_0 : w1.cell? ⟨w.heap.size, 0, none⟩ = some (.int .i64 p) := by go_simp
    have kf1_0_0 : w1.frozen? ⟨w.heap.size, 0, none⟩ = false := by go_simp
    have kb1_0_1 : w1.cell? ⟨w.heap.size, 1, none⟩ = some (.int .i64 q) := by go_simp
    have kf1_0_1 : w1.frozen? ⟨w.heap.size, 1, none⟩ = false := by go_simp
    clear hc1 hf1
    go_wp2
    go_ret
    exact ⟨_, rfl, by rw [HV.out]; exact IsInts.nil _ _ _, by (repeat (first | exact Below.refl _ _ | refine Below.setCell ?_ (by first | omega | (simp <;> omega)) _ | refine Below.alloc ?_ (by first | omega | (simp <;> omega)) _ | refine Below.drew ?_ | refine Below.trans ?_ (Below.mono (by assumption) (by first | omega | (simp <;> omega))) | refine Below.grown ?_ (by assumption) (by first | omega | (simp <;> omega)) (fun k e => by cases e; first | omega | (simp <;> omega))))⟩
  · have HP := Lib.hid hp
    rcases inB_false ha with ha' | ha'
    · clear hp ha h
      go_enter Try.func26, Try.ntmps26
      go_wp2_with fail
      refine (implPairOk_yes p q _ HP.out).mono ?_
      rintro e w1 ⟨rfl, hh1⟩
      obtain ⟨hc1, hf1⟩ := bcell hh1
      have hz1 := hh1.size
      try simp only [World.size_alloc] at hz1
      have hz1_0 : w.heap.size < w1.heap.size := by omega
      have kb1_0_0 : w1.cell? ⟨w.heap.size, 0, none⟩ = some (.int .i64 p) := by go_simp
      have kf1_0_0 : w1.frozen? ⟨w.heap.size, 0, none⟩ = false := by go_simp
      have kb1_0_1 : w1.cell? ⟨w.heap.size, 1, none⟩ = some (.int .i64 q) := by go_simp
      have kf1_0_1 : w1.frozen? ⟨w.heap.size, 1, none⟩ = false := by go_simp
      clear hc1 hf1
      go_wp2
      go_ret
      exact ⟨_, rfl, by rw [HV.out]; exact IsInts.nil _ _ _, by (repeat (first | exact Below.refl _ _ | refine Below.setCell ?_ (by first | omega | (simp <;> omega)) _ | refine Below.alloc ?_ (by first | omega | (simp <;> omega)) _ | refine Below.drew ?_ | refine Below.trans ?_ (Below.mono (by assumption) (by first | omega | (simp <;> omega))) | refine Below.grown ?_ (by assumption) (by first | omega | (simp <;> omega)) (fun k e => by cases e; first | omega | (simp <;> omega))))⟩
    · have hq : ¬ n < 0 := by omega
      clear hp ha h
      go_enter Try.func26, Try.ntmps26
      go_wp2_with fail
      refine (implPairOk_yes p q _ HP.out).mono ?_
      rintro e w1 ⟨rfl, hh1⟩
      obtain ⟨hc1, hf1⟩ := bcell hh1
      have hz1 := hh1.size
      try simp only [World.size_alloc] at hz1
      have hz1_0 : w.heap.size < w1.heap.size := by omega
      have kb1_0_0 : w1.cell? ⟨w.heap.size, 0, none⟩ = some (.int .i64 p) := by go_simp
      have kf1_0_0 : w1.frozen? ⟨w.heap.size, 0, none⟩ = false := by go_simp
      have kb1_0_1 : w1.cell? ⟨w.heap.size, 1, none⟩ = some (.int .i64 q) := by go_simp
      have kf1_0_1 : w1.frozen? ⟨w.heap.size, 1, none⟩ = false := by go_simp
      clear hc1 hf1
      go_wp2
      go_ret
      exact ⟨_, rfl, by rw [HV.out]; exact IsInts.nil _ _ _, by (repeat (first | exact Below.refl _ _ | refine Below.setCell ?_ (by first | omega | (simp <;> omega)) _ | refine Below.alloc ?_ (by first | omega | (simp <;> omega)) _ | refine Below.drew ?_ | refine Below.trans ?_ (Below.mono (by assumption) (by first | omega | (simp <;> omega))) | refine Below.grown ?_ (by assumption) (by first | omega | (simp <;> omega)) (fun k e => by cases e; first | omega | (simp <;> omega))))⟩
  · have HP := Lib.hid hp
    have HB := Lib.hid hb
    obtain ⟨a1, a2⟩ := inB_true ha
    clear hp ha hb h
    go_enter Try.func26, Try.ntmps26
    go_wp2_with fail
    refine (implPairOk_yes p q _ HP.out).mono ?_
    rintro e w1 ⟨rfl, hh1⟩
    obtain ⟨hc1, hf1⟩ := bcell hh1
    have hz1 := hh1.size
    try simp only [World.size_alloc] at hz1
    have hz1_0 : w.heap.size < w1.heap.size := by omega
    have kb1_0_0 : w1.cell? ⟨w.heap.size, 0, none⟩ = some (.int .i64 p) := by go_simp
    have kf1_0_0 : w1.frozen? ⟨w.heap.size, 0, none⟩ = false := by go_simp
    have kb1_0_1 : w1.cell? ⟨w.heap.size, 1, none⟩ = some (.int .i64 q) := by go_simp
    have kf1_0_1 : w1.frozen? ⟨w.heap.size, 1, none⟩ = false := by go_simp
    clear hc1 hf1
    go_wp2_with fail
    refine (byOk_is _ false _ HB.out).mono ?_
    rintro e wx ⟨rfl, rfl⟩
    go_wp2
    go_ret
    exact ⟨_, rfl, by rw [HV.out]; exact IsInts.nil _ _ _, by (repeat (first | exact Below.refl _ _ | refine Below.setCell ?_ (by first | omega | (simp <;> omega)) _ | refine Below.alloc ?_ (by first | omega | (simp <;> omega)) _ | refine Below.drew ?_ | refine Below.trans ?_ (Below.mono (by assumption) (by first | omega | (simp <;> omega))) | refine Below.grown ?_ (by assumption) (by first | omega | (simp <;> omega)) (fun k e => by cases e; first | omega | (simp <;> omega))))⟩
theorem implRowLeft_any (p q n m : Int) (w : World) : Calls Try.prog 26 #[pr p q, .int .i64 n, .int .i64 m] w (RowLeftOf p q n m w) := by
  cases h : rowLeftB p q n m with
  | true =>
    obtain ⟨_, ⟨k, rfl, _⟩, _, _⟩ := rowLeftB_true h
    exact implRowLeft_yes p q m k w h
  | false => exact implRowLeft_no p q n m w h
end Go.Proofs.Ytgcpmgddlaeccaa
