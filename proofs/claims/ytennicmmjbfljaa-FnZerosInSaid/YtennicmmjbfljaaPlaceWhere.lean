/- The places of a table: those at which a number divides the row. -/
import Derived.Test.YtennicmmjbfljaaPlaceIter
import Derived.Test.YtennicmmjbfljaaSharedAt
import Derived.Test.YtennicmmjbfljaaLeftAt
import Derived.Test.YtennicmmjbfljaaRoundQuiet
namespace Go.Proofs.Ytennicmmjbfljaa
open Go.RowKit Go.Shelf
attribute [local go_sem] Oper.semAt_some
theorem wide_fn (k : FuncId) : Fence.wide.fn k = True := rfl
attribute [local go_sem] wide_fn
/-- What lies in the function's boxes: the table, the pair, the function, and what that holds on to (X). -/
def WhereBoxes (w : World) (p q : Int) (fv : Value) (X : List (Addr × Value)) (t : Nat) (W : World) : Prop :=
  (W.cell? ⟨w.heap.size + 1 + 1, 0, none⟩ = some (.int .u32 t) ∧ W.frozen? ⟨w.heap.size + 1 + 1, 0, none⟩ = false) ∧
  (W.cell? ⟨w.heap.size, 0, none⟩ = some (.int .i64 p) ∧ W.cell? ⟨w.heap.size, 1, none⟩ = some (.int .i64 q) ∧ W.cell? ⟨w.heap.size + 1, 0, none⟩ = some fv) ∧
  (∀ x ∈ X, x.1.block < w.heap.size ∧ W.cell? x.1 = some x.2) ∧ Below w.heap.size w W
theorem WhereBoxes.below {w : World} {p q : Int} {fv : Value} {X : List (Addr × Value)} {t : Nat} {W W' : World} (h : WhereBoxes w p q fv X t W) (hb : Below W.heap.size W W') : WhereBoxes w p q fv X t W' := by
  obtain ⟨⟨x1, x2⟩, ⟨x3, x4, x5⟩, x6, x7⟩ := h
  exact ⟨⟨cell_below hb x1, frozen_below hb x1 x2⟩, ⟨cell_below hb x3, cell_below hb x4, cell_below hb x5⟩, fun x hx => ⟨(x6 x hx).1, cell_below hb (x6 x hx).2⟩, x7.trans (hb.mono x7.size)⟩
theorem WhereBoxes.drewN {w : World} {p q : Int} {fv : Value} {X : List (Addr × Value)} {t : Nat} {W : World} (h : WhereBoxes w p q fv X t W) (n : Nat) : WhereBoxes w p q fv X t (W.drewN n) := by
  obtain ⟨x1, x2, x3, x4⟩ := h
  exact ⟨x1, x2, x3, below_drewN x4 n⟩
theorem WhereBoxes.drew {w : World} {p q : Int} {fv : Value} {X : List (Addr × Value)} {t : Nat} {W : World} (h : WhereBoxes w p q fv X t W) : WhereBoxes w p q fv X t W.drew := h.drewN 1
theorem WhereBoxes.set {w : World} {p q : Int} {fv : Value} {X : List (Addr × Value)} {t : Nat} {W : World} (h : WhereBoxes w p q fv X t W) (u : Nat) : WhereBoxes w p q fv X u (W.setCell ⟨w.heap.size + 1 + 1, 0, none⟩ (.int .u32 u)) := by
  obtain ⟨⟨x1, x2⟩, ⟨x3, x4, x5⟩, x6, x7⟩ := h
  exact ⟨⟨set_same x1, set_frozen x2⟩, ⟨(set_other (by omega)).trans x3, (set_other (by omega)).trans x4, (set_other (by omega)).trans x5⟩,
    fun x hx => ⟨(x6 x hx).1, (World.cell?_setCell_other _ _ _ _ (fun e => by have := (x6 x hx).1; rw [← e] at this; simp at this; omega)).trans (x6 x hx).2⟩, x7.setCell (by show w.heap.size ≤ w.heap.size + 1 + 1; omega) _⟩
theorem WhereBoxes.kept {w : World} {p q : Int} {fv : Value} {X : List (Addr × Value)} {t : Nat} {A V : World} {row : Option Nat} (h : WhereBoxes w p q fv X t A) (hg : A.grownBy V row) (hr : ∀ r, row = some r → w.heap.size ≤ r ∧ ∃ o : Obj, A.heap[r]? = some o ∧ o.isCells = false) : WhereBoxes w p q fv X t V := by
  have hr' := fun r e => (hr r e).2
  obtain ⟨⟨x1, x2⟩, ⟨x3, x4, x5⟩, x6, x7⟩ := h
  exact ⟨⟨cell_kept x1 hg hr', (frozen_kept x1 hg hr').trans x2⟩, ⟨cell_kept x3 hg hr', cell_kept x4 hg hr', cell_kept x5 hg hr'⟩, fun x hx => ⟨(x6 x hx).1, cell_kept (x6 x hx).2 hg hr'⟩, x7.grown hg x7.size (fun k e => (hr k e).1)⟩
/-- What a table holds: all places at which d divides the row. -/
def Table (p q d : Int) (t : Nat) : Prop := t < 2097152 ∧ ∀ j, t.testBit j = true ↔ (1 ≤ j ∧ j ≤ 20 ∧ d ∣ row p q 0 1 j)
/-- What holds when k places with their multiples have come. -/
def Found (p q d : Int) (k t : Nat) : Prop :=
  t < 2097152 ∧ (∀ j, t.testBit j = true → 1 ≤ j ∧ j ≤ 20 ∧ d ∣ row p q 0 1 j) ∧ (∀ i, i < k → ∀ j, stPM i = (j, j) → d ∣ row p q 0 1 j → t.testBit j = true)
theorem Found.start (p q d : Int) : Found p q d 0 0 := ⟨by omega, fun j h => by simp at h, fun i h => by omega⟩
theorem bit_put (t m j : Nat) : (t ||| 1 <<< m).testBit j = (t.testBit j || decide (m = j)) := by
  rw [Nat.testBit_or, Nat.one_shiftLeft, Nat.testBit_two_pow]
theorem Found.put {p q d : Int} {k t a m : Nat} (h : Found p q d k t) (hk : k < 66) (hs : stPM k = (a, m)) (hd : d ∣ row p q 0 1 a) : Found p q d (k + 1) (t ||| 1 <<< m) := by
  obtain ⟨h1, h2, h3⟩ := h
  obtain ⟨s1, s2, s3, s4⟩ := stPM_all k hk
  rw [hs] at s1 s2 s3 s4
  simp only at s1 s2 s3 s4
  have hm : d ∣ row p q 0 1 m := by
    obtain ⟨c, hc⟩ := Nat.dvd_of_mod_eq_zero s4
    rw [hc]
    exact Int.dvd_trans hd (row_dvd p q a c)
  refine ⟨(put_bit t m h1 s3).2, fun j hj => ?_, fun i hi j hj hdj => ?_⟩
  · rw [bit_put] at hj
    rw [Bool.or_eq_true] at hj
    rcases hj with hj | hj
    · exact h2 j hj
    · obtain rfl : m = j := by simpa using hj
      exact ⟨by omega, s3, hm⟩
  · rw [bit_put]
    rcases Nat.lt_or_ge i k with hlt | hge
    · rw [h3 i hlt j hj hdj]; rfl
    · obtain rfl : i = k := by omega
      rw [hs] at hj
      injection hj with e1 e2
      simp [e2]
theorem Found.skip {p q d : Int} {k t a m : Nat} (h : Found p q d k t) (hs : stPM k = (a, m)) (hn : a ≠ m ∨ ¬ d ∣ row p q 0 1 a) : Found p q d (k + 1) t := by
  obtain ⟨h1, h2, h3⟩ := h
  refine ⟨h1, h2, fun i hi j hj hdj => ?_⟩
  rcases Nat.lt_or_ge i k with hlt | hge
  · exact h3 i hlt j hj hdj
  · obtain rfl : i = k := by omega
    rw [hs] at hj
    injection hj with e1 e2
    rcases hn with hn | hn
    · exact absurd (e1.trans e2.symm) hn
    · rw [e1] at hn; exact absurd hdj hn
theorem Found.all {p q d : Int} {t : Nat} (h : Found p q d 66 t) : Table p q d t := by
  obtain ⟨h1, h2, h3⟩ := h
  refine ⟨h1, fun j => ⟨h2 j, fun ⟨j1, j2, hd⟩ => ?_⟩⟩
  obtain ⟨k, hk, hs⟩ := stPM_self j (by omega) j1
  exact h3 k hk j hs hd
set_option maxHeartbeats 400000 in
theorem zero_holds (n : Int) (w : World) (c : Bool) (h : (n == 0) = c) : Calls Try.prog 51 #[.int .i64 n] w fun e w' => e = .returned (.bool c) ∧ w = w' := by
  have H := Lib.hid h
  clear h
  go_enter Try.func51, Try.ntmps51
  go_wp2
  go_ret
  exact ⟨ret_bool H.out, rfl⟩
set_option maxHeartbeats 400000 in
theorem by_holds (n d : Int) (B : Nat) (w : World) (c : Bool) (hd : 1 ≤ d) (hd2 : d ≤ 10000) (hc : w.cell? ⟨B, 0, none⟩ = some (.int .i64 d)) (h : (n.tmod d == 0) = c) : Calls Try.prog 54 #[.int .i64 n, .pointer (some ⟨B, 0, none⟩)] w fun e w' => e = .returned (.bool c) ∧ w = w' := by
  have H := Lib.hid h
  have hz : (d == 0) = false := by simp; omega
  clear h
  go_enter Try.func54, Try.ntmps54
  go_wp2
  go_ret
  exact ⟨ret_bool H.out, rfl⟩
theorem dvd_bool (d n : Int) : (n.tmod d == 0) = decide (d ∣ n) := by
  rw [Bool.eq_iff_iff, beq_iff_eq, decide_eq_true_iff]
  exact ⟨Int.dvd_of_tmod_eq_zero, Int.tmod_eq_zero_of_dvd⟩
theorem zero_bool (n : Int) : (n == 0) = decide ((0 : Int) ∣ n) := by
  rw [Bool.eq_iff_iff, beq_iff_eq, decide_eq_true_iff, Int.zero_dvd]
set_option maxRecDepth 100000 in
set_option maxHeartbeats 8000000 in
theorem placesWhere_zero (p q : Int) (w : World) (hp : pairB p q = true) :
    Calls Try.prog 50 #[pr p q, .func (.func 51) #[] #[]] w fun e w' => ∃ t : Nat, e = .returned (.int .u32 t) ∧ Table p q 0 t ∧ Below w.heap.size w w' := by
  have HP := Lib.hid hp
  clear hp
  refine (callsIn_wide (n := 9)).1 ?_
  refine callsIn_of_wp_marks Try.func50 rfl trivial ?_ rfl
  simp only [Try.ntmps50, List.size_toArray, List.length_cons, List.length_nil, Nat.reduceAdd, Nat.reduceSub, Array.replicate_succ, Array.replicate_zero, List.push_toArray, List.append_toArray, List.nil_append, List.cons_append]
  gi_wp2_with fail
  refine (callsIn_wide.2 (placesAndMultiples_any _)).mono ?_
  rintro e w1 ⟨rfl, rfl⟩
  gi_wp2_with fail
  refine wpIn_rangeFunc_counted (P := Try.prog) rfl (by omega) (gf := 65) (lb := #[]) rfl trivial (enters_of Try.func65 (by kernel_rfl) rfl)
    (placesAndMultiples_counted 8 (by omega) _) (Below.refl _ _) (fun _ => rfl)
    (fun k W => ∃ t : Nat, Found p q 0 k t ∧ WhereBoxes w p q (.func (.func 51) #[] #[]) [] t W)
    (fun _ _ _ => False) ?own (fun _ _ _ _ _ h _ _ => h) (fun _ _ _ => trivial) ?start
    (fun k => { tmps := #[pr p q, .func (.func 51) #[] #[], .pointer (some ⟨w.heap.size, 0, none⟩), .pointer (some ⟨w.heap.size + 1, 0, none⟩), .int .u32 0, .pointer (some ⟨w.heap.size + 1 + 1, 0, none⟩), .int .i64 ((stPM k).1 : Nat), .int .i64 ((stPM k).2 : Nat), .func (.func 65) #[] #[], .int .i64 ((stPM k).1 : Nat), .int .i64 ((stPM k).2 : Nat), undef, undef, undef, undef, undef, undef, undef, undef, undef, undef, undef, undef, undef, undef, undef, undef, undef, undef, undef], defers := [] })
    ?assign ?body ?done (fun _ _ _ _ _ _ h _ => h.elim)
  case own =>
    rintro k A V row ⟨t, x0, x1⟩ hg hr
    exact ⟨t, x0, x1.kept hg (fun r e => by obtain ⟨h1, h2⟩ := hr r e; refine ⟨?_, h2⟩; simp at h1; omega)⟩
  case start =>
    have hL : Below w.heap.size w (((w.alloc (.cells #[.int .i64 p, .int .i64 q] 24)).alloc (.cells #[.func (.func 51) #[] #[]] 54)).alloc (.cells #[.int .u32 0] 60)) := by
      (repeat (first | exact Below.refl _ _ | refine Below.setCell ?_ (by first | omega | (simp <;> omega)) _ | refine Below.alloc ?_ (by first | omega | (simp <;> omega)) _ | refine Below.drew ?_ | refine Below.trans ?_ (Below.mono (by assumption) (by first | omega | (simp <;> omega))) | refine Below.grown ?_ (by assumption) (by first | omega | (simp <;> omega)) (fun k e => by cases e; first | omega | (simp <;> omega))))
    exact ⟨0, Found.start p q 0, ⟨by go_simp, by go_simp⟩, ⟨by go_simp, by go_simp, by go_simp⟩, (fun x hx => by cases hx), hL⟩
  case assign =>
    intro l j W K hK
    gi_wp2
    exact hK
  case body =>
    rintro l k W hk ⟨t, x0, hbx⟩
    have s := stPM_all k hk
    generalize hs : stPM k = x at s ⊢
    obtain ⟨a, m⟩ := x
    obtain ⟨s1, s2, s3, s4⟩ := s
    simp only at s1 s2 s3
    clear s4
    dsimp only
    have ha : a ≤ 20 := by omega
    have ht := x0.1
    have HS := Lib.hid hs
    have HF := Lib.hid x0
    have HX := Lib.hid hbx
    clear x0 hbx hs
    obtain ⟨S, hSd⟩ : ∃ S : World → Prop, (fun V => WhereBoxes w p q (.func (.func 51) #[] #[]) [] t V ∧ KeepsOthers W V) = S := ⟨_, rfl⟩
    have hkeep : ∀ V V' : World, S V → Below V.heap.size V V' → S V' := by rw [← hSd]; exact fun V V' h hb => ⟨h.1.below hb, h.2.trans (keepsOthers_below hb)⟩
    have g1 : ∀ i : KeptBy S, i.world.cell? ⟨w.heap.size + 1 + 1, 0, none⟩ = some (.int .u32 t) := by rw [← hSd]; exact fun i => i.ok.1.1.1
    have g2 : ∀ i : KeptBy S, i.world.cell? ⟨w.heap.size, 0, none⟩ = some (.int .i64 p) := by rw [← hSd]; exact fun i => i.ok.1.2.1.1
    have g3 : ∀ i : KeptBy S, i.world.cell? ⟨w.heap.size, 1, none⟩ = some (.int .i64 q) := by rw [← hSd]; exact fun i => i.ok.1.2.1.2.1
    have g4 : ∀ i : KeptBy S, i.world.cell? ⟨w.heap.size + 1, 0, none⟩ = some (.func (.func 51) #[] #[]) := by rw [← hSd]; exact fun i => i.ok.1.2.1.2.2
    have g5 : Nonempty (KeptBy S) := ⟨⟨W.drew, by rw [← hSd]; exact ⟨HX.out.drew, KeepsOthers.drew W⟩⟩⟩
    cases hbit : t.testBit a with
    | true =>
      have hhold := True.intro
      gi_wp2_with fail
      refine wpIn_region_kept (S := S) (by rw [← hSd]; exact ⟨HX.out.drew, KeepsOthers.drew W⟩) rfl (by kernel_rfl) (by kernel_rfl) (by kernel_rfl) ?_
      repeat (gi_big_quiet_step ((first | (gi_at_call 62; refine (callsIn_wide.2 (has_at t a _ _ ht ha hbit)).mono ?_; rintro e w' ⟨rfl, rfl⟩; exact ⟨rfl, _, rfl⟩) | (gi_at_call 46; refine (callsIn_wide.2 (firstOf_at p q a _ _ _ rfl HP.out ha rfl)).mono ?_; rintro e w' ⟨rfl, hhw⟩; exact ⟨rfl, ⟨w', hkeep _ _ (KeptBy.ok _) hhw⟩, rfl⟩) | (gi_at_call 51; rename_i i; refine (callsIn_wide.2 (hhold _)).mono ?_; rintro e w' ⟨rfl, rfl⟩; exact ⟨rfl, _, rfl⟩) | fail)))
      refine wpQuietIn_nil ?_
      rintro wz ⟨iz, hwz⟩
      obtain ⟨ok2, ko2⟩ : WhereBoxes w p q (.func (.func 51) #[] #[]) [] t wz ∧ KeepsOthers W wz := by
        have this : S wz := by rw [hwz]; exact iz.ok
        rw [← hSd] at this
        exact this
      clear hwz iz
      clear g1 g2 g3 g4 g5 hkeep hhold hSd
      have OK := Lib.hid ok2
      obtain ⟨⟨x1, x2⟩, _, _⟩ := ok2
      gi_wp2_with fail
      refine (CallsIn.inRound l (callsIn_wide.2 (with_at t m _ ht s3))).mono ?_
      rintro e w' ⟨rfl, rfl⟩
      gi_wp2
      exact ⟨ko2.trans (KeepsOthers.setCell _ _ _), _, HF.out.put hk HS.out (HF.out.2.1 a hbit).2.2, OK.out.set _⟩
    | false =>
      by_cases ham : a = m
      · subst ham
        cases hh : row p q 0 1 a == 0 with
        | true =>
          have hhold : ∀ i : KeptBy S, Calls Try.prog 51 #[.int .i64 (row p q 0 1 a)] i.world fun e w' => e = .returned (.bool true) ∧ i.world = w' := by rw [← hSd]; exact fun i => zero_holds _ _ _ hh
          gi_wp2_with fail
          refine wpIn_region_kept (S := S) (by rw [← hSd]; exact ⟨HX.out.drew, KeepsOthers.drew W⟩) rfl (by kernel_rfl) (by kernel_rfl) (by kernel_rfl) ?_
          repeat (gi_big_quiet_step ((first | (gi_at_call 62; refine (callsIn_wide.2 (has_at t a _ _ ht ha hbit)).mono ?_; rintro e w' ⟨rfl, rfl⟩; exact ⟨rfl, _, rfl⟩) | (gi_at_call 46; refine (callsIn_wide.2 (firstOf_at p q a _ _ _ rfl HP.out ha rfl)).mono ?_; rintro e w' ⟨rfl, hhw⟩; exact ⟨rfl, ⟨w', hkeep _ _ (KeptBy.ok _) hhw⟩, rfl⟩) | (gi_at_call 51; rename_i i; refine (callsIn_wide.2 (hhold _)).mono ?_; rintro e w' ⟨rfl, rfl⟩; exact ⟨rfl, _, rfl⟩) | fail)))
          refine wpQuietIn_nil ?_
          rintro wz ⟨iz, hwz⟩
          obtain ⟨ok2, ko2⟩ : WhereBoxes w p q (.func (.func 51) #[] #[]) [] t wz ∧ KeepsOthers W wz := by
            have this : S wz := by rw [hwz]; exact iz.ok
            rw [← hSd] at this
            exact this
          clear hwz iz
          clear g1 g2 g3 g4 g5 hkeep hhold hSd
          have OK := Lib.hid ok2
          obtain ⟨⟨x1, x2⟩, _, _⟩ := ok2
          gi_wp2_with fail
          refine (CallsIn.inRound l (callsIn_wide.2 (with_at t a _ ht s3))).mono ?_
          rintro e w' ⟨rfl, rfl⟩
          gi_wp2
          exact ⟨ko2.trans (KeepsOthers.setCell _ _ _), _, HF.out.put hk HS.out (by simpa [zero_bool] using hh), OK.out.set _⟩
        | false =>
          have hhold : ∀ i : KeptBy S, Calls Try.prog 51 #[.int .i64 (row p q 0 1 a)] i.world fun e w' => e = .returned (.bool false) ∧ i.world = w' := by rw [← hSd]; exact fun i => zero_holds _ _ _ hh
          gi_wp2_with fail
          refine wpIn_region_kept (S := S) (by rw [← hSd]; exact ⟨HX.out.drew, KeepsOthers.drew W⟩) rfl (by kernel_rfl) (by kernel_rfl) (by kernel_rfl) ?_
          repeat (gi_big_quiet_step ((first | (gi_at_call 62; refine (callsIn_wide.2 (has_at t a _ _ ht ha hbit)).mono ?_; rintro e w' ⟨rfl, rfl⟩; exact ⟨rfl, _, rfl⟩) | (gi_at_call 46; refine (callsIn_wide.2 (firstOf_at p q a _ _ _ rfl HP.out ha rfl)).mono ?_; rintro e w' ⟨rfl, hhw⟩; exact ⟨rfl, ⟨w', hkeep _ _ (KeptBy.ok _) hhw⟩, rfl⟩) | (gi_at_call 51; rename_i i; refine (callsIn_wide.2 (hhold _)).mono ?_; rintro e w' ⟨rfl, rfl⟩; exact ⟨rfl, _, rfl⟩) | fail)))
          refine wpQuietIn_nil ?_
          rintro wz ⟨iz, hwz⟩
          obtain ⟨ok2, ko2⟩ : WhereBoxes w p q (.func (.func 51) #[] #[]) [] t wz ∧ KeepsOthers W wz := by
            have this : S wz := by rw [hwz]; exact iz.ok
            rw [← hSd] at this
            exact this
          clear hwz iz
          clear g1 g2 g3 g4 g5 hkeep hhold hSd
          have ok3 := ok2
          clear ok2
          gi_wp2
          exact ⟨ko2, _, HF.out.skip HS.out (.inr (by simpa [zero_bool] using hh)), ok3⟩
      · have hne : ((a : Int) == (m : Int)) = false := by simp; omega
        have hhold := True.intro
        gi_wp2_with fail
        refine wpIn_region_kept (S := S) (by rw [← hSd]; exact ⟨HX.out.drew, KeepsOthers.drew W⟩) rfl (by kernel_rfl) (by kernel_rfl) (by kernel_rfl) ?_
        repeat (gi_big_quiet_step ((first | (gi_at_call 62; refine (callsIn_wide.2 (has_at t a _ _ ht ha hbit)).mono ?_; rintro e w' ⟨rfl, rfl⟩; exact ⟨rfl, _, rfl⟩) | (gi_at_call 46; refine (callsIn_wide.2 (firstOf_at p q a _ _ _ rfl HP.out ha rfl)).mono ?_; rintro e w' ⟨rfl, hhw⟩; exact ⟨rfl, ⟨w', hkeep _ _ (KeptBy.ok _) hhw⟩, rfl⟩) | (gi_at_call 51; rename_i i; refine (callsIn_wide.2 (hhold _)).mono ?_; rintro e w' ⟨rfl, rfl⟩; exact ⟨rfl, _, rfl⟩) | fail)))
        refine wpQuietIn_nil ?_
        rintro wz ⟨iz, hwz⟩
        obtain ⟨ok2, ko2⟩ : WhereBoxes w p q (.func (.func 51) #[] #[]) [] t wz ∧ KeepsOthers W wz := by
          have this : S wz := by rw [hwz]; exact iz.ok
          rw [← hSd] at this
          exact this
        clear hwz iz
        clear g1 g2 g3 g4 g5 hkeep hhold hSd
        have ok3 := ok2
        clear ok2
        gi_wp2
        exact ⟨ko2, _, HF.out.skip HS.out (.inl ham), ok3⟩
  case done =>
    rintro D W hD ⟨t, x0, hbx⟩ hK
    have HB := Lib.hid hbx.2.2.2
    have HK := Lib.hid hK
    have HD := Lib.hid hD
    have HF := Lib.hid x0.all
    obtain ⟨⟨x1, x2⟩, _, _⟩ := hbx
    clear hK hD x0
    gi_wp2
    refine ⟨by simp, .inl ⟨_, _, rfl, run_takeDeferred HK.out, ?_⟩⟩
    have hD' : w.heap.size ≤ D := by have := HD.out; simp at this; omega
    exact ⟨_, by simp [results, Try.results50, go_sem], t, rfl, HF.out, HB.out.grown (grownBy_putObj' _ D (.deferred none)) HB.out.size (fun k e => by cases e; exact hD')⟩
set_option maxRecDepth 100000 in
set_option maxHeartbeats 8000000 in
theorem placesWhere_by (p q d : Int) (Bc : Nat) (w : World) (hp : pairB p q = true) (hd1 : 1 ≤ d) (hd2 : d ≤ 10000) (hcap : w.cell? ⟨Bc, 0, none⟩ = some (.int .i64 d)) :
    Calls Try.prog 50 #[pr p q, .func (.func 54) #[] #[.pointer (some ⟨Bc, 0, none⟩)]] w fun e w' => ∃ t : Nat, e = .returned (.int .u32 t) ∧ Table p q d t ∧ Below w.heap.size w w' := by
  have HP := Lib.hid hp
  clear hp
  refine (callsIn_wide (n := 9)).1 ?_
  refine callsIn_of_wp_marks Try.func50 rfl trivial ?_ rfl
  simp only [Try.ntmps50, List.size_toArray, List.length_cons, List.length_nil, Nat.reduceAdd, Nat.reduceSub, Array.replicate_succ, Array.replicate_zero, List.push_toArray, List.append_toArray, List.nil_append, List.cons_append]
  gi_wp2_with fail
  refine (callsIn_wide.2 (placesAndMultiples_any _)).mono ?_
  rintro e w1 ⟨rfl, rfl⟩
  gi_wp2_with fail
  refine wpIn_rangeFunc_counted (P := Try.prog) rfl (by omega) (gf := 65) (lb := #[]) rfl trivial (enters_of Try.func65 (by kernel_rfl) rfl)
    (placesAndMultiples_counted 8 (by omega) _) (Below.refl _ _) (fun _ => rfl)
    (fun k W => ∃ t : Nat, Found p q d k t ∧ WhereBoxes w p q (.func (.func 54) #[] #[.pointer (some ⟨Bc, 0, none⟩)]) [(⟨Bc, 0, none⟩, .int .i64 d)] t W)
    (fun _ _ _ => False) ?own (fun _ _ _ _ _ h _ _ => h) (fun _ _ _ => trivial) ?start
    (fun k => { tmps := #[pr p q, .func (.func 54) #[] #[.pointer (some ⟨Bc, 0, none⟩)], .pointer (some ⟨w.heap.size, 0, none⟩), .pointer (some ⟨w.heap.size + 1, 0, none⟩), .int .u32 0, .pointer (some ⟨w.heap.size + 1 + 1, 0, none⟩), .int .i64 ((stPM k).1 : Nat), .int .i64 ((stPM k).2 : Nat), .func (.func 65) #[] #[], .int .i64 ((stPM k).1 : Nat), .int .i64 ((stPM k).2 : Nat), undef, undef, undef, undef, undef, undef, undef, undef, undef, undef, undef, undef, undef, undef, undef, undef, undef, undef, undef], defers := [] })
    ?assign ?body ?done (fun _ _ _ _ _ _ h _ => h.elim)
  case own =>
    rintro k A V row ⟨t, x0, x1⟩ hg hr
    exact ⟨t, x0, x1.kept hg (fun r e => by obtain ⟨h1, h2⟩ := hr r e; refine ⟨?_, h2⟩; simp at h1; omega)⟩
  case start =>
    have hL : Below w.heap.size w (((w.alloc (.cells #[.int .i64 p, .int .i64 q] 24)).alloc (.cells #[.func (.func 54) #[] #[.pointer (some ⟨Bc, 0, none⟩)]] 54)).alloc (.cells #[.int .u32 0] 60)) := by
      (repeat (first | exact Below.refl _ _ | refine Below.setCell ?_ (by first | omega | (simp <;> omega)) _ | refine Below.alloc ?_ (by first | omega | (simp <;> omega)) _ | refine Below.drew ?_ | refine Below.trans ?_ (Below.mono (by assumption) (by first | omega | (simp <;> omega))) | refine Below.grown ?_ (by assumption) (by first | omega | (simp <;> omega)) (fun k e => by cases e; first | omega | (simp <;> omega))))
    exact ⟨0, Found.start p q d, ⟨by go_simp, by go_simp⟩, ⟨by go_simp, by go_simp, by go_simp⟩, (fun x hx => by obtain rfl := List.mem_singleton.1 hx; exact ⟨World.block_lt_of_cell? _ _ hcap, cell_below hL hcap⟩), hL⟩
  case assign =>
    intro l j W K hK
    gi_wp2
    exact hK
  case body =>
    rintro l k W hk ⟨t, x0, hbx⟩
    have s := stPM_all k hk
    generalize hs : stPM k = x at s ⊢
    obtain ⟨a, m⟩ := x
    obtain ⟨s1, s2, s3, s4⟩ := s
    simp only at s1 s2 s3
    clear s4
    dsimp only
    have ha : a ≤ 20 := by omega
    have ht := x0.1
    have HS := Lib.hid hs
    have HF := Lib.hid x0
    have HX := Lib.hid hbx
    clear x0 hbx hs
    obtain ⟨S, hSd⟩ : ∃ S : World → Prop, (fun V => WhereBoxes w p q (.func (.func 54) #[] #[.pointer (some ⟨Bc, 0, none⟩)]) [(⟨Bc, 0, none⟩, .int .i64 d)] t V ∧ KeepsOthers W V) = S := ⟨_, rfl⟩
    have hkeep : ∀ V V' : World, S V → Below V.heap.size V V' → S V' := by rw [← hSd]; exact fun V V' h hb => ⟨h.1.below hb, h.2.trans (keepsOthers_below hb)⟩
    have g1 : ∀ i : KeptBy S, i.world.cell? ⟨w.heap.size + 1 + 1, 0, none⟩ = some (.int .u32 t) := by rw [← hSd]; exact fun i => i.ok.1.1.1
    have g2 : ∀ i : KeptBy S, i.world.cell? ⟨w.heap.size, 0, none⟩ = some (.int .i64 p) := by rw [← hSd]; exact fun i => i.ok.1.2.1.1
    have g3 : ∀ i : KeptBy S, i.world.cell? ⟨w.heap.size, 1, none⟩ = some (.int .i64 q) := by rw [← hSd]; exact fun i => i.ok.1.2.1.2.1
    have g4 : ∀ i : KeptBy S, i.world.cell? ⟨w.heap.size + 1, 0, none⟩ = some (.func (.func 54) #[] #[.pointer (some ⟨Bc, 0, none⟩)]) := by rw [← hSd]; exact fun i => i.ok.1.2.1.2.2
    have g5 : Nonempty (KeptBy S) := ⟨⟨W.drew, by rw [← hSd]; exact ⟨HX.out.drew, KeepsOthers.drew W⟩⟩⟩
    cases hbit : t.testBit a with
    | true =>
      have hhold := True.intro
      gi_wp2_with fail
      refine wpIn_region_kept (S := S) (by rw [← hSd]; exact ⟨HX.out.drew, KeepsOthers.drew W⟩) rfl (by kernel_rfl) (by kernel_rfl) (by kernel_rfl) ?_
      repeat (gi_big_quiet_step ((first | (gi_at_call 62; refine (callsIn_wide.2 (has_at t a _ _ ht ha hbit)).mono ?_; rintro e w' ⟨rfl, rfl⟩; exact ⟨rfl, _, rfl⟩) | (gi_at_call 46; refine (callsIn_wide.2 (firstOf_at p q a _ _ _ rfl HP.out ha rfl)).mono ?_; rintro e w' ⟨rfl, hhw⟩; exact ⟨rfl, ⟨w', hkeep _ _ (KeptBy.ok _) hhw⟩, rfl⟩) | (gi_at_call 54; rename_i i; refine (callsIn_wide.2 (hhold _)).mono ?_; rintro e w' ⟨rfl, rfl⟩; exact ⟨rfl, _, rfl⟩) | fail)))
      refine wpQuietIn_nil ?_
      rintro wz ⟨iz, hwz⟩
      obtain ⟨ok2, ko2⟩ : WhereBoxes w p q (.func (.func 54) #[] #[.pointer (some ⟨Bc, 0, none⟩)]) [(⟨Bc, 0, none⟩, .int .i64 d)] t wz ∧ KeepsOthers W wz := by
        have this : S wz := by rw [hwz]; exact iz.ok
        rw [← hSd] at this
        exact this
      clear hwz iz
      clear g1 g2 g3 g4 g5 hkeep hhold hSd
      have OK := Lib.hid ok2
      obtain ⟨⟨x1, x2⟩, _, _⟩ := ok2
      gi_wp2_with fail
      refine (CallsIn.inRound l (callsIn_wide.2 (with_at t m _ ht s3))).mono ?_
      rintro e w' ⟨rfl, rfl⟩
      gi_wp2
      exact ⟨ko2.trans (KeepsOthers.setCell _ _ _), _, HF.out.put hk HS.out (HF.out.2.1 a hbit).2.2, OK.out.set _⟩
    | false =>
      by_cases ham : a = m
      · subst ham
        cases hh : (row p q 0 1 a).tmod d == 0 with
        | true =>
          have hhold : ∀ i : KeptBy S, Calls Try.prog 54 #[.int .i64 (row p q 0 1 a), .pointer (some ⟨Bc, 0, none⟩)] i.world fun e w' => e = .returned (.bool true) ∧ i.world = w' := by rw [← hSd]; exact fun i => by_holds _ d Bc _ _ hd1 hd2 (i.ok.1.2.2.1 _ (List.mem_singleton.2 rfl)).2 hh
          gi_wp2_with fail
          refine wpIn_region_kept (S := S) (by rw [← hSd]; exact ⟨HX.out.drew, KeepsOthers.drew W⟩) rfl (by kernel_rfl) (by kernel_rfl) (by kernel_rfl) ?_
          repeat (gi_big_quiet_step ((first | (gi_at_call 62; refine (callsIn_wide.2 (has_at t a _ _ ht ha hbit)).mono ?_; rintro e w' ⟨rfl, rfl⟩; exact ⟨rfl, _, rfl⟩) | (gi_at_call 46; refine (callsIn_wide.2 (firstOf_at p q a _ _ _ rfl HP.out ha rfl)).mono ?_; rintro e w' ⟨rfl, hhw⟩; exact ⟨rfl, ⟨w', hkeep _ _ (KeptBy.ok _) hhw⟩, rfl⟩) | (gi_at_call 54; rename_i i; refine (callsIn_wide.2 (hhold _)).mono ?_; rintro e w' ⟨rfl, rfl⟩; exact ⟨rfl, _, rfl⟩) | fail)))
          refine wpQuietIn_nil ?_
          rintro wz ⟨iz, hwz⟩
          obtain ⟨ok2, ko2⟩ : WhereBoxes w p q (.func (.func 54) #[] #[.pointer (some ⟨Bc, 0, none⟩)]) [(⟨Bc, 0, none⟩, .int .i64 d)] t wz ∧ KeepsOthers W wz := by
            have this : S wz := by rw [hwz]; exact iz.ok
            rw [← hSd] at this
            exact this
          clear hwz iz
          clear g1 g2 g3 g4 g5 hkeep hhold hSd
          have OK := Lib.hid ok2
          obtain ⟨⟨x1, x2⟩, _, _⟩ := ok2
          gi_wp2_with fail
          refine (CallsIn.inRound l (callsIn_wide.2 (with_at t a _ ht s3))).mono ?_
          rintro e w' ⟨rfl, rfl⟩
          gi_wp2
          exact ⟨ko2.trans (KeepsOthers.setCell _ _ _), _, HF.out.put hk HS.out (by simpa [dvd_bool] using hh), OK.out.set _⟩
        | false =>
          have hhold : ∀ i : KeptBy S, Calls Try.prog 54 #[.int .i64 (row p q 0 1 a), .pointer (some ⟨Bc, 0, none⟩)] i.world fun e w' => e = .returned (.bool false) ∧ i.world = w' := by rw [← hSd]; exact fun i => by_holds _ d Bc _ _ hd1 hd2 (i.ok.1.2.2.1 _ (List.mem_singleton.2 rfl)).2 hh
          gi_wp2_with fail
          refine wpIn_region_kept (S := S) (by rw [← hSd]; exact ⟨HX.out.drew, KeepsOthers.drew W⟩) rfl (by kernel_rfl) (by kernel_rfl) (by kernel_rfl) ?_
          repeat (gi_big_quiet_step ((first | (gi_at_call 62; refine (callsIn_wide.2 (has_at t a _ _ ht ha hbit)).mono ?_; rintro e w' ⟨rfl, rfl⟩; exact ⟨rfl, _, rfl⟩) | (gi_at_call 46; refine (callsIn_wide.2 (firstOf_at p q a _ _ _ rfl HP.out ha rfl)).mono ?_; rintro e w' ⟨rfl, hhw⟩; exact ⟨rfl, ⟨w', hkeep _ _ (KeptBy.ok _) hhw⟩, rfl⟩) | (gi_at_call 54; rename_i i; refine (callsIn_wide.2 (hhold _)).mono ?_; rintro e w' ⟨rfl, rfl⟩; exact ⟨rfl, _, rfl⟩) | fail)))
          refine wpQuietIn_nil ?_
          rintro wz ⟨iz, hwz⟩
          obtain ⟨ok2, ko2⟩ : WhereBoxes w p q (.func (.func 54) #[] #[.pointer (some ⟨Bc, 0, none⟩)]) [(⟨Bc, 0, none⟩, .int .i64 d)] t wz ∧ KeepsOthers W wz := by
            have this : S wz := by rw [hwz]; exact iz.ok
            rw [← hSd] at this
            exact this
          clear hwz iz
          clear g1 g2 g3 g4 g5 hkeep hhold hSd
          have ok3 := ok2
          clear ok2
          gi_wp2
          exact ⟨ko2, _, HF.out.skip HS.out (.inr (by simpa [dvd_bool] using hh)), ok3⟩
      · have hne : ((a : Int) == (m : Int)) = false := by simp; omega
        have hhold := True.intro
        gi_wp2_with fail
        refine wpIn_region_kept (S := S) (by rw [← hSd]; exact ⟨HX.out.drew, KeepsOthers.drew W⟩) rfl (by kernel_rfl) (by kernel_rfl) (by kernel_rfl) ?_
        repeat (gi_big_quiet_step ((first | (gi_at_call 62; refine (callsIn_wide.2 (has_at t a _ _ ht ha hbit)).mono ?_; rintro e w' ⟨rfl, rfl⟩; exact ⟨rfl, _, rfl⟩) | (gi_at_call 46; refine (callsIn_wide.2 (firstOf_at p q a _ _ _ rfl HP.out ha rfl)).mono ?_; rintro e w' ⟨rfl, hhw⟩; exact ⟨rfl, ⟨w', hkeep _ _ (KeptBy.ok _) hhw⟩, rfl⟩) | (gi_at_call 54; rename_i i; refine (callsIn_wide.2 (hhold _)).mono ?_; rintro e w' ⟨rfl, rfl⟩; exact ⟨rfl, _, rfl⟩) | fail)))
        refine wpQuietIn_nil ?_
        rintro wz ⟨iz, hwz⟩
        obtain ⟨ok2, ko2⟩ : WhereBoxes w p q (.func (.func 54) #[] #[.pointer (some ⟨Bc, 0, none⟩)]) [(⟨Bc, 0, none⟩, .int .i64 d)] t wz ∧ KeepsOthers W wz := by
          have this : S wz := by rw [hwz]; exact iz.ok
          rw [← hSd] at this
          exact this
        clear hwz iz
        clear g1 g2 g3 g4 g5 hkeep hhold hSd
        have ok3 := ok2
        clear ok2
        gi_wp2
        exact ⟨ko2, _, HF.out.skip HS.out (.inl ham), ok3⟩
  case done =>
    rintro D W hD ⟨t, x0, hbx⟩ hK
    have HB := Lib.hid hbx.2.2.2
    have HK := Lib.hid hK
    have HD := Lib.hid hD
    have HF := Lib.hid x0.all
    obtain ⟨⟨x1, x2⟩, _, _⟩ := hbx
    clear hK hD x0
    gi_wp2
    refine ⟨by simp, .inl ⟨_, _, rfl, run_takeDeferred HK.out, ?_⟩⟩
    have hD' : w.heap.size ≤ D := by have := HD.out; simp at this; omega
    exact ⟨_, by simp [results, Try.results50, go_sem], t, rfl, HF.out, HB.out.grown (grownBy_putObj' _ D (.deferred none)) HB.out.size (fun k e => by cases e; exact hD')⟩
end Go.Proofs.Ytennicmmjbfljaa
