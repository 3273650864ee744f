/- Contracts and laws that the statement's proof stands on, one text behind the other. -/
import Derived.Test.YtgipkcbmanjpcaaAll0a
import Derived.Deep.DeepCutAuto
import Derived.Deep.RegionWith
import Derived.BigQuiet

namespace Go.Proofs.Ytgipkcbmanjpcaa
open Go.RowKit
/-- Whatever is neither cells nor a map or what goes through one lies as it lay. -/
structure KeepsRecs (W W' : World) : Prop where
  size : W.heap.size ≤ W'.heap.size
  same : ∀ (j : Nat) (o : Obj), W.heap[j]? = some o → o.isCells = false → o.isWalk = false → W'.heap[j]? = some o
theorem keepsOthers_recs {W W' : World} (h : KeepsOthers W W') : KeepsRecs W W' := ⟨h.size, fun j o h1 h2 _ => h.same j o h1 h2⟩
theorem KeepsRecs.trans {A B C : World} (h : KeepsRecs A B) (k : KeepsRecs B C) : KeepsRecs A C := ⟨Nat.le_trans h.size k.size, fun j o h1 h2 h3 => k.same j o (h.same j o h1 h2 h3) h2 h3⟩
theorem KeepsRecs.map {W W' : World} {b : Nat} (hg : W.grownBy W' (some b)) (hb : ∃ es c, W.heap[b]? = some (.map es c)) : KeepsRecs W W' := by
  refine ⟨hg.size, fun j o h1 h2 h3 => ?_⟩
  obtain ⟨es, c, hb⟩ := hb
  have hne : j ≠ b := fun e => by subst e; rw [hb] at h1; injection h1 with h1; subst h1; cases h3
  exact (hg.block j (Array.getElem?_eq_some_iff.1 h1).1 (fun e => hne (by injection e))).trans h1
theorem Held.recs {w A B : World} {o : Obj} (h : Held w A o) (ho : o.isCells = false) (hw : o.isWalk = false) (hk : KeepsRecs A B) : Held w B o := ⟨hk.same _ _ h.1 ho hw, hk.same _ _ h.2 rfl rfl⟩
/-- How the body of round k may end. -/
def countEndM (I : Nat → World → Prop) (X : Code → Nat → World → Prop) (k : Nat) (W : World) : Exit → Act → World → Prop
  | .normal, _, V => KeepsRecs W V ∧ I (k + 1) V
  | .ret, _, V => KeepsRecs W V ∧ X .ret k V
  | .exit id, _, V => KeepsRecs W V ∧ X (.exit id) k V
  | .goto t, _, V => KeepsRecs W V ∧ X (.goto t) k V
  | .panic _, _, _ => False
  | .outgrown, _, _ => False
variable {F : Fence} {n : Nat} {P : Program}
/-- **The statement 'for x := range f', f an iterator of N rounds.** -/
theorem wpIn_rangeFunc_counted_map {g : Operand} {ps : Array Tmp} {assign body : Code} {Q : Exit → Act → World → Prop} {a : Act} {w : World}
    (hro : F.round = none) (h1 : 1 ≤ n) {gf : Nat} {lb : Array Value} (hg : a.eval g = .func (.func gf) #[] lb) (hFg : F.fn gf) (eg : ∀ args V, (callFunc gf args).run P V = .ok (.enter gf args) V)
    {at_ : Nat → Array Value} {Kp : World → Prop} {N : Nat} {w0 : World} (hseq : Counted F (n - 1) P gf lb at_ Kp N w0) (hb0 : Below w0.heap.size w0 w) (hps : ∀ k, (at_ k).size = ps.size)
    (I : Nat → World → Prop) (X : Code → Nat → World → Prop) (hI : OwnFrom w.heap.size I) (hX : ∀ c, OwnFrom w.heap.size (X c)) (hKp : ∀ k V, I k V → Kp V) (h0 : I 0 w) (a₁ : Nat → Act)
    (hassign : ∀ (l k : Nat) (W : World) (K : Act → World → Prop), K (a₁ k) W →
      assign.wpIn (F.inRound l) (n - 1 - 1) P (Exit.then K (fun _ _ _ => False)) { tmps := (ps.zip (at_ k)).foldl (fun t (p, v) => t.setIfInBounds p v) a.tmps, defers := [] } W)
    (hbody : ∀ (l k : Nat) (W : World), k < N → I k W → body.wpIn (F.inRound l) (n - 1 - 1) P (countEndM I X k W) (a₁ k) W)
    (hdone : ∀ (D : Nat) (W : World), w.heap.size ≤ D → I N W → W.heap[D]? = some (.deferred (some [])) → Q .normal { a with defers := { target := .collected D, args := #[] } :: a.defers } W)
    (hstop : ∀ (D k : Nat) (c : Code) (W : World), w.heap.size ≤ D → k < N → X c k W → W.heap[D]? = some (.deferred (some [])) → c.wpIn F n P Q { a with defers := { target := .collected D, args := #[] } :: a.defers } W) :
    (Code.rangeFunc g ps assign body).wpIn F n P Q a w := by
  refine wpIn_rangeFunc fun fn hfn => ?_
  rw [hro]
  obtain ⟨rec, hrec⟩ : ∃ rec : LoopState → Option Code → Obj, rec = recordOf w fn a ps assign body := ⟨_, rfl⟩
  have held : Held w ((w.alloc (.deferred (some []))).alloc (rec .ready none)) (rec .ready none) := by
    refine ⟨?_, (Below.heap_alloc _ _ _ (by simp)).trans (World.alloc_heap_new w _)⟩
    have := World.alloc_heap_new (w.alloc (.deferred (some []))) (rec .ready none)
    rwa [World.size_alloc] at this
  have hI1 : I 0 ((w.alloc (.deferred (some []))).alloc (rec .ready none)) := hI.alloc _ (hI.alloc _ h0)
  have hb1 : Below w0.heap.size w0 ((w.alloc (.deferred (some []))).alloc (rec .ready none)) := hb0.trans ((((Below.refl _ w).alloc (Nat.le_refl _) _).alloc (by simp) _).mono hb0.size)
  have hsz : w.heap.size ≤ ((w.alloc (.deferred (some []))).alloc (rec .ready none)).heap.size := by simp; omega
  obtain ⟨W1, hW1⟩ : ∃ W1, (w.alloc (.deferred (some []))).alloc (rec .ready none) = W1 := ⟨_, rfl⟩
  rw [hW1] at held hI1 hb1 hsz
  refine ⟨w.heap.size + 1, [{ target := .collected w.heap.size, args := #[] }], W1, { target := .fn (.func gf) lb, args := #[.func (.yield (w.heap.size + 1)) #[] #[]] }, W1, gf, #[.func (.yield (w.heap.size + 1)) #[] #[]] ++ lb, W1,
    by rw [← hW1, hrec]; exact run_enterLoop_outer _ _ _ _ _, by simp only [resolve, hg]; simp [go_sem], fun f' hf' => by simp [Target.leads] at hf'; subst hf'; exact hFg, by simp [invoke, go_sem, eg], fun _ => h1, ?_⟩
  have nowalk : ∀ {A : World} {row : Option Nat}, (∀ r, row = some r → W1.heap.size ≤ r ∧ ∃ o : Obj, A.heap[r]? = some o ∧ o.isWalk = true) → (∀ r, row = some r → w.heap.size ≤ r ∧ ∃ o : Obj, A.heap[r]? = some o ∧ o.isCells = false) :=
    fun hr r e => by obtain ⟨hB, o, ho, hw⟩ := hr r e; exact ⟨by omega, o, ho, Obj.not_cells_of_walk hw⟩
  have recW : ∀ st pe, (rec st pe).isWalk = false := fun _ _ => by rw [hrec]; rfl
  have recC : ∀ st pe, (rec st pe).isCells = false := fun _ _ => by rw [hrec]; rfl
  refine (hseq (w.heap.size + 1) (fun k W => I k W ∧ Held w W (rec .ready none)) (fun k W => ∃ c, X c k W ∧ Held w W (rec .done (some c))) W1 hb1
    (fun s A B row hs hg' hr => ⟨hI s A B row hs.1 hg' (nowalk hr), hs.2.kept (recW _ _) hg' (fun r e => (hr r e).2)⟩)
    (fun s A B row hs hg' hr => by obtain ⟨c, hc, hh⟩ := hs; exact ⟨c, hX c s A B row hc hg' (nowalk hr), hh.kept (recW _ _) hg' (fun r e => (hr r e).2)⟩)
    (fun k V hj => hKp k V hj.1) ?round ⟨hI1, held⟩).mono ?behind
  case round =>
    rintro k W hk ⟨hi, hh⟩
    have hl : W.heap[w.heap.size + 1]? = some (.loop { state := .ready, pending := none, fn := fn, tmps := a.tmps, params := ps, assign := assign, body := body, defers := w.heap.size }) := by have := hh.1; rw [hrec] at this; exact this
    refine ⟨fn, _, assign, body, run_yield (P := P) (args := at_ k) hl (hps k), roundIn_of_wpIn hfn (hassign _ k W _ ⟨_, run_beginRound hl rfl, ?_⟩)⟩
    have busy : Held w (W.putObj (w.heap.size + 1) (rec .busy none)) (rec .busy none) := hh.turned _
    have hi2 : I k (W.putObj (w.heap.size + 1) (rec .busy none)) := hI.putObj _ hi (by omega) hl rfl
    have fin : ∀ (jump : Option Code) (V : World), KeepsRecs (W.putObj (w.heap.size + 1) (rec .busy none)) V → ∃ r : Loop, V.heap[w.heap.size + 1]? = some (.loop r) ∧
        (Instr.endRound (w.heap.size + 1) jump).run P V = .ok (.bool jump.isNone) (V.putObj (w.heap.size + 1) (rec (if jump.isNone then .ready else .done) jump)) ∧ Held w (V.putObj (w.heap.size + 1) (rec (if jump.isNone then .ready else .done) jump)) (rec (if jump.isNone then .ready else .done) jump) := fun jump V hkV => by
      have hv := busy.recs (recC _ _) (recW _ _) hkV
      have hv1 := hv.1
      rw [hrec] at hv1
      have hr := run_endRound (P := P) jump hv1
      refine ⟨_, hv1, ?_, hv.turned _⟩
      rw [hrec]; exact hr
    rw [hrec] at hi2 busy
    refine wpIn_mono (hbody _ k _ hk hi2) ?_
    rintro e a3 V hp
    have stop : ∀ c : Code, KeepsRecs (W.putObj (w.heap.size + 1) (recordOf w fn a ps assign body .busy none)) V ∧ X c k V →
        ∃ v V', (Instr.endRound (w.heap.size + 1) (some c)).run P V = .ok v V' ∧ ((Ending.returned v = .returned (.bool true) ∧ (I (k + 1) V' ∧ Held w V' (rec .ready none))) ∨ (Ending.returned v = .returned (.bool false) ∧ ∃ c, X c k V' ∧ Held w V' (rec .done (some c)))) := fun c hc => by
      obtain ⟨r, hl3, hr, hh3⟩ := fin (some c) V (by rw [hrec]; exact hc.1)
      exact ⟨_, _, hr, .inr ⟨rfl, c, (hX c).putObj _ hc.2 (by omega) hl3 rfl, hh3⟩⟩
    cases e with
    | normal =>
      obtain ⟨hk3, hi3⟩ := hp
      obtain ⟨r, hl3, hr, hh3⟩ := fin none V (by rw [hrec]; exact hk3)
      exact ⟨_, _, hr, .inl ⟨rfl, hI.putObj _ hi3 (by omega) hl3 rfl, hh3⟩⟩
    | ret => exact stop _ hp
    | exit id => exact stop _ hp
    | goto t => exact stop _ hp
    | panic ch => exact hp.elim
    | outgrown => exact hp.elim
  case behind =>
    rintro e V ⟨⟨v, rfl⟩, (⟨hi, hh⟩ | ⟨k, hk, c, hc, hh⟩)⟩
    · have hl := hh.1
      rw [hrec] at hl
      refine ⟨none, _, run_endLoop (P := P) hl (by simp), hdone _ _ (Nat.le_refl _) (hI.putObj _ hi (by omega) hl rfl) ?_⟩
      exact (World.putObj_heap_other (by omega)).trans hh.2
    · have hl := hh.1
      rw [hrec] at hl
      refine ⟨some c, _, run_endLoop (P := P) hl (by simp), hstop _ k c _ (Nat.le_refl _) hk ((hX c).putObj _ hc (by omega) hl rfl) ?_⟩
      exact (World.putObj_heap_other (by omega)).trans hh.2
end Go.Proofs.Ytgipkcbmanjpcaa
namespace Go.Proofs.Ytgipkcbmanjpcaa
open Go.RowKit
theorem leftAt_agg (p q m : Int) (k : Nat) (w : World) (hp : pairB p q = true) (h1 : 1 ≤ m) (h2 : m ≤ 10000) (hk : k ≤ 1000000000) :
    Calls Try.prog 44 #[pr p q, .int .i64 k, .int .i64 m] w fun e w' => e = .returned (.agg #[.int .i64 (row p q 0 1 k % m), .int .i64 (row p q 0 1 (k + 1) % m)]) ∧ Below w.heap.size w w' := leftAt_at p q m k w hp h1 h2 hk
set_option maxHeartbeats 4000000 in
theorem implFarFirst_any (p q n m : Int) (w : World) :
    Calls Try.prog 15 #[pr p q, .int .i64 n, .int .i64 m] w fun e w' => e = .returned (.int .i64 (farFirstV p q n m)) ∧ Below w.heap.size w w' := by
  cases h : farB p q n m with
  | true =>
    obtain ⟨hp, ⟨k, rfl, hk⟩, m1, m2⟩ := farB_true h
    obtain ⟨⟨r1, r2⟩, r3, r4⟩ := pairB_true hp
    have HV := Lib.hid (show farFirstV p q k m = row p q 0 1 k % m by rw [farFirstV, if_pos h]; rfl)
    have HA := Lib.hid (inB_mk (n := (k : Int)) (a := 0) (b := 1000000000) (by omega) (by omega))
    have HB := Lib.hid (inB_mk (n := m) (a := 1) (b := 10000) m1 m2)
    have HP := Lib.hid hp
    obtain ⟨a0, a1⟩ := left_bd (row p q 0 1 k) m m1
    obtain ⟨b0, b1⟩ := left_bd (row p q 0 1 (k + 1)) m m1
    have E := Lib.hid (far_second p q m k)
    have hfd : ∀ (x y : Int) (w : World), (Instr.field 60 (.agg #[.int .i64 x, .int .i64 y]) 0).run Try.prog w = .ok (.int .i64 x) w := fun _ _ _ => by kernel_rfl
    rw [HV.out]
    clear hp h
    go_enter Try.func15, Try.ntmps15
    go_wp2_with fail
    refine (implPairOk_yes p q _ HP.out).mono ?_
    rintro e w1 ⟨rfl, hh1⟩
    obtain ⟨hc1, hf1⟩ := bcell hh1
    have hz1 := hh1.size
    try simp only [World.size_alloc] at hz1
    have hz1_0 : w.heap.size < w1.heap.size := by omega
    have kb1_0_0 : w1.cell? ⟨w.heap.size, 0, none⟩ = some (.int .i64 p) := by go_simp
    have kf1_0_0 : w1.frozen? ⟨w.heap.size, 0, none⟩ = false := by go_simp
    have kb1_0_1 : w1.cell? ⟨w.heap.size, 1, none⟩ = some (.int .i64 q) := by go_simp
    have kf1_0_1 : w1.frozen? ⟨w.heap.size, 1, none⟩ = false := by go_simp
    clear hc1 hf1
    go_wp2_with fail
    refine (farOk_is _ true _ HA.out).mono ?_
    rintro e wx ⟨rfl, rfl⟩
    go_wp2_with fail
    refine (byOk_is _ true _ HB.out).mono ?_
    rintro e wx ⟨rfl, rfl⟩
    go_wp2_with fail
    refine (leftAt_agg p q m k _ HP.out m1 m2 hk).mono ?_
    rintro e w2 ⟨rfl, hh2⟩
    obtain ⟨hc2, hf2⟩ := bcell hh2
    have hz2 := hh2.size
    try simp only [World.size_alloc] at hz2
    go_wp2
    go_ret
    exact ⟨rfl, by (repeat (first | exact Below.refl _ _ | refine Below.setCell ?_ (by first | omega | (simp <;> omega)) _ | refine Below.alloc ?_ (by first | omega | (simp <;> omega)) _ | refine Below.drew ?_ | refine Below.trans ?_ (Below.mono (by assumption) (by first | omega | (simp <;> omega))) | refine Below.grown ?_ (by assumption) (by first | omega | (simp <;> omega)) (fun k e => by cases e; first | omega | (simp <;> omega))))⟩
  | false =>
    have HV := Lib.hid (show farFirstV p q n m = -1 by rw [farFirstV, if_neg (by simp [h])])
    rw [HV.out]
    rcases farB_ways h with hp | ⟨hp, ha⟩ | ⟨hp, ha, hb⟩
    · have HP := Lib.hid hp
      clear hp h
      go_enter Try.func15, Try.ntmps15
      go_wp2_with fail
      refine (implPairOk_no p q _ HP.out).mono ?_
      rintro e w1 ⟨rfl, hh1⟩
      obtain ⟨hc1, hf1⟩ := bcell hh1
      have hz1 := hh1.size
      try simp only [World.size_alloc] at hz1
      have hz1_0 : w.heap.size < w1.heap.size := by omega
      have kb1_0_0 : w1.cell? ⟨w.heap.size, 0, none⟩ = some (.int .i64 p) := by go_simp
      have kf1_0_0 : w1.frozen? ⟨w.heap.size, 0, none⟩ = false := by go_simp
      have kb1_0_1 : w1.cell? ⟨w.heap.size, 1, none⟩ = some (.int .i64 q) := by go_simp
      have kf1_0_1 : w1.frozen? ⟨w.heap.size, 1, none⟩ = false := by go_simp
      clear hc1 hf1
      go_wp2
      go_ret
      exact ⟨rfl, by (repeat (first | exact Below.refl _ _ | refine Below.setCell ?_ (by first | omega | (simp <;> omega)) _ | refine Below.alloc ?_ (by first | omega | (simp <;> omega)) _ | refine Below.drew ?_ | refine Below.trans ?_ (Below.mono (by assumption) (by first | omega | (simp <;> omega))) | refine Below.grown ?_ (by assumption) (by first | omega | (simp <;> omega)) (fun k e => by cases e; first | omega | (simp <;> omega))))⟩
    · have HP := Lib.hid hp
      have HA := Lib.hid ha
      clear hp ha h
      go_enter Try.func15, Try.ntmps15
      go_wp2_with fail
      refine (implPairOk_yes p q _ HP.out).mono ?_
      rintro e w1 ⟨rfl, hh1⟩
      obtain ⟨hc1, hf1⟩ := bcell hh1
      have hz1 := hh1.size
      try simp only [World.size_alloc] at hz1
      have hz1_0 : w.heap.size < w1.heap.size := by omega
      have kb1_0_0 : w1.cell? ⟨w.heap.size, 0, none⟩ = some (.int .i64 p) := by go_simp
      have kf1_0_0 : w1.frozen? ⟨w.heap.size, 0, none⟩ = false := by go_simp
      have kb1_0_1 : w1.cell? ⟨w.heap.size, 1, none⟩ = some (.int .i64 q) := by go_simp
      have kf1_0_1 : w1.frozen? ⟨w.heap.size, 1, none⟩ = false := by go_simp
      clear hc1 hf1
      go_wp2_with fail
      refine (farOk_is n false _ HA.out).mono ?_
      rintro e wx ⟨rfl, rfl⟩
      go_wp2
      go_ret
      exact ⟨rfl, by (repeat (first | exact Below.refl _ _ | refine Below.setCell ?_ (by first | omega | (simp <;> omega)) _ | refine Below.alloc ?_ (by first | omega | (simp <;> omega)) _ | refine Below.drew ?_ | refine Below.trans ?_ (Below.mono (by assumption) (by first | omega | (simp <;> omega))) | refine Below.grown ?_ (by assumption) (by first | omega | (simp <;> omega)) (fun k e => by cases e; first | omega | (simp <;> omega))))⟩
    · have HP := Lib.hid hp
      have HA := Lib.hid ha
      have HB := Lib.hid hb
      clear hp ha hb h
      go_enter Try.func15, Try.ntmps15
      go_wp2_with fail
      refine (implPairOk_yes p q _ HP.out).mono ?_
      rintro e w1 ⟨rfl, hh1⟩
      obtain ⟨hc1, hf1⟩ := bcell hh1
      have hz1 := hh1.size
      try simp only [World.size_alloc] at hz1
      have hz1_0 : w.heap.size < w1.heap.size := by omega
      have kb1_0_0 : w1.cell? ⟨w.heap.size, 0, none⟩ = some (.int .i64 p) := by go_simp
      have kf1_0_0 : w1.frozen? ⟨w.heap.size, 0, none⟩ = false := by go_simp
      have kb1_0_1 : w1.cell? ⟨w.heap.size, 1, none⟩ = some (.int .i64 q) := by go_simp
      have kf1_0_1 : w1.frozen? ⟨w.heap.size, 1, none⟩ = false := by go_simp
      clear hc1 hf1
      go_wp2_with fail
      refine (farOk_is n true _ HA.out).mono ?_
      rintro e wx ⟨rfl, rfl⟩
      go_wp2_with fail
      refine (byOk_is m false _ HB.out).mono ?_
      rintro e wx ⟨rfl, rfl⟩
      go_wp2
      go_ret
      exact ⟨rfl, by (repeat (first | exact Below.refl _ _ | refine Below.setCell ?_ (by first | omega | (simp <;> omega)) _ | refine Below.alloc ?_ (by first | omega | (simp <;> omega)) _ | refine Below.drew ?_ | refine Below.trans ?_ (Below.mono (by assumption) (by first | omega | (simp <;> omega))) | refine Below.grown ?_ (by assumption) (by first | omega | (simp <;> omega)) (fun k e => by cases e; first | omega | (simp <;> omega))))⟩
end Go.Proofs.Ytgipkcbmanjpcaa
namespace Go.Proofs.Ytgipkcbmanjpcaa
open Go.RowKit Go.Shelf
attribute [local go_sem] Oper.semAt_some
theorem pow_twice (a m : Int) (g : Nat) : a ^ g % m * (a ^ g % m) % m = a ^ (2 * g) % m := by
  refine Eqm.left ?_
  rw [Nat.two_mul, Int.pow_add]
  exact (eqm_left m _).mul (eqm_left m _)
theorem pow_next (a m : Int) (g : Nat) : a ^ g % m * (a % m) % m = a ^ (g + 1) % m := by
  refine Eqm.left ?_
  rw [Int.pow_succ]
  exact (eqm_left m _).mul (eqm_left m _)
/-- What lies in the function's boxes between two bits. -/
def PowBoxes (B b c H : Nat) (a m x : Int) (k : Nat) (W : World) : Prop :=
  W.cell? ⟨B, 0, none⟩ = some (.int .i64 m) ∧ W.cell? ⟨b, 0, none⟩ = some (.int .i64 (a % m)) ∧ (W.cell? ⟨c, 0, none⟩ = some (.int .i64 x) ∧ W.frozen? ⟨c, 0, none⟩ = false) ∧ W.cell? ⟨H, 0, none⟩ = some (.int .i64 k)
theorem PowBoxes.set {B b c H : Nat} {a m x : Int} {k : Nat} {W : World} (h : PowBoxes B b c H a m x k W) (h1 : B ≠ c) (h2 : b ≠ c) (h3 : H ≠ c) (y : Int) : PowBoxes B b c H a m y k (W.setCell ⟨c, 0, none⟩ (.int .i64 y)) :=
  ⟨(set_other h1).trans h.1, (set_other h2).trans h.2.1, ⟨set_same h.2.2.1.1, set_frozen h.2.2.1.2⟩, (set_other h3).trans h.2.2.2⟩
theorem PowBoxes.kept {B b c H : Nat} {a m x : Int} {k : Nat} {A V : World} {row : Option Nat} (h : PowBoxes B b c H a m x k A) (hg : A.grownBy V row) (hr : ∀ r, row = some r → ∃ o : Obj, A.heap[r]? = some o ∧ o.isCells = false) : PowBoxes B b c H a m x k V :=
  ⟨cell_kept h.1 hg hr, cell_kept h.2.1 hg hr, ⟨cell_kept h.2.2.1.1 hg hr, (frozen_kept h.2.2.1.1 hg hr).trans h.2.2.1.2⟩, cell_kept h.2.2.2 hg hr⟩
end Go.Proofs.Ytgipkcbmanjpcaa
namespace Go.Proofs.Ytgipkcbmanjpcaa
open Go.RowKit Go.Shelf
/-- The list when j of its n numbers have been set. -/
def ListIs (G n j : Nat) (f : Nat → Int) (W : World) : Prop :=
  (∀ x, x < j → W.cell? ⟨G, x, none⟩ = some (.int .i64 (f x))) ∧ (∀ x, j ≤ x → x < n → W.cell? ⟨G, x, none⟩ = some (.int .i64 0)) ∧ (∀ x, x < n → W.frozen? ⟨G, x, none⟩ = false)
theorem ListIs.at {G n j : Nat} {f : Nat → Int} {W : World} (h : ListIs G n j f W) (hj : j < n) : W.cell? ⟨G, j, none⟩ = some (.int .i64 0) ∧ W.frozen? ⟨G, j, none⟩ = false := ⟨h.2.1 j (Nat.le_refl _) hj, h.2.2 j hj⟩
theorem ListIs.set {G n j : Nat} {f : Nat → Int} {W : World} (h : ListIs G n j f W) (hj : j < n) (v : Int) (hv : v = f j) : ListIs G n (j + 1) f (W.setCell ⟨G, j, none⟩ (.int .i64 v)) := by
  subst hv
  refine ⟨fun x hx => ?_, fun x h1 h2 => ?_, fun x hx => ?_⟩
  · by_cases e : x = j
    · subst e; exact set_same (h.at hj).1
    · exact (World.cell?_setCell_other _ ⟨G, j, none⟩ ⟨G, x, none⟩ _ (fun e' => by injection e'; omega)).trans (h.1 x (by omega))
  · exact (World.cell?_setCell_other _ ⟨G, j, none⟩ ⟨G, x, none⟩ _ (fun e' => by injection e'; omega)).trans (h.2.1 x (by omega) h2)
  · exact set_frozen (h.2.2 x hx)
theorem ListIs.other {G n j S o : Nat} {f : Nat → Int} {W : World} {v : Value} (h : ListIs G n j f W) (hS : G ≠ S) : ListIs G n j f (W.setCell ⟨S, o, none⟩ v) :=
  ⟨fun x hx => (set_other hS).trans (h.1 x hx), fun x h1 h2 => (set_other hS).trans (h.2.1 x h1 h2), fun x hx => set_frozen (h.2.2 x hx)⟩
theorem ListIs.below {G n j : Nat} {f : Nat → Int} {W W' : World} (h : ListIs G n j f W) (hb : Below W.heap.size W W') (hG : G < W.heap.size) : ListIs G n j f W' :=
  ⟨fun x hx => (hb.cell (p := ⟨G, x, none⟩) hG).trans (h.1 x hx), fun x h1 h2 => (hb.cell (p := ⟨G, x, none⟩) hG).trans (h.2.1 x h1 h2), fun x hx => (hb.frozen (p := ⟨G, x, none⟩) hG).trans (h.2.2 x hx)⟩
theorem ListIs.ints {G n B : Nat} {f : Nat → Int} {W : World} (h : ListIs G n n f W) (hB : B ≤ G) (hG : G < W.heap.size) (c : Nat) : IsInts B W.heap.size W (.slice (some ⟨G, 0, none⟩) n c) n f :=
  ⟨_, c, rfl, Nat.le_refl _, .inr ⟨G, 0, rfl, hB, hG, fun i hi => by rw [Nat.zero_add]; exact h.1 i hi, fun i hi => by rw [Nat.zero_add]; exact h.2.2 i hi⟩⟩
theorem madeCells_at (n x : Nat) (h : x < n) : (madeCells #[.int .i64 0] n)[x]? = some (.int .i64 0) := by
  rw [← Array.getElem?_toList, toList_madeCells_one]
  simp [h]
theorem ListIs.made {n : Nat} {f : Nat → Int} (W : World) (t : TypeId) : ListIs W.heap.size n 0 f (W.alloc (.cells (madeCells #[.int .i64 0] n) t)) := by
  refine ⟨fun x hx => absurd hx (by omega), fun x _ hx => ?_, fun x hx => ?_⟩
  · have := heap_alloc_new W (.cells (madeCells #[.int .i64 0] n) t)
    simp only [World.cell?, this]
    simp [madeCells_at n x hx]
  · have := heap_alloc_new W (.cells (madeCells #[.int .i64 0] n) t)
    simp only [World.frozen?, this]
    simp
end Go.Proofs.Ytgipkcbmanjpcaa
namespace Go.Proofs.Ytgipkcbmanjpcaa
open Go.RowKit
/-- One of four numbers, by half of another one. -/
def four (v a b c d : Int) : Int := if v / 2 = 0 then a else if v / 2 = 1 then b else if v / 2 = 2 then c else d
theorem four_get (v a b c d : Int) (h0 : 0 ≤ v) (h1 : v ≤ 7) : (#[.int .i64 a, .int .i64 b, .int .i64 c, .int .i64 d] : Array Value)[(v / 2).toNat]? = some (.int .i64 (four v a b c d)) := by
  rcases (show v / 2 = 0 ∨ v / 2 = 1 ∨ v / 2 = 2 ∨ v / 2 = 3 by omega) with e | e | e | e <;> simp [four, e]
theorem four_at (v a b c d : Int) (h : (v / 2).toNat < [Value.int .i64 a, Value.int .i64 b, Value.int .i64 c, Value.int .i64 d].length) (h0 : 0 ≤ v) (h1 : v ≤ 7) : [Value.int .i64 a, Value.int .i64 b, Value.int .i64 c, Value.int .i64 d][(v / 2).toNat]'h = .int .i64 (four v a b c d) := by
  have e := four_get v a b c d h0 h1
  rw [Array.getElem?_eq_some_iff] at e
  obtain ⟨_, e⟩ := e
  simpa using e
/-- What a draw of a number returns. -/
def NumberDrawn (w : World) (R k m : Nat) (e : Ending) (w' : World) : Prop :=
  ∃ v : Int, e = .returned (.int .i64 v) ∧ Rd w' R (k + m) ∧ w.grownBy w' (some R)
end Go.Proofs.Ytgipkcbmanjpcaa
namespace Go.Proofs.Ytgipkcbmanjpcaa
open Go.RowKit
/-- What a draw of a pair and a number returns. -/
def DrawnOne (w : World) (e : Ending) (w' : World) : Prop :=
  ∃ p q a : Int, e = .returned (.tuple #[pr p q, .int .i64 a]) ∧ -6 ≤ p ∧ p ≤ 100 ∧ -6 ≤ q ∧ q ≤ 100 ∧ -60 ≤ a ∧ a ≤ 60 ∧ Below w.heap.size w w'
/-- What a draw of a pair and two numbers returns. -/
def DrawnBoth (w : World) (e : Ending) (w' : World) : Prop :=
  ∃ p q a b : Int, e = .returned (.tuple #[pr p q, .int .i64 a, .int .i64 b]) ∧ -6 ≤ p ∧ p ≤ 100 ∧ -6 ≤ q ∧ q ≤ 100 ∧ -60 ≤ a ∧ a ≤ 60 ∧ -60 ≤ b ∧ b ≤ 60 ∧ Below w.heap.size w w'
end Go.Proofs.Ytgipkcbmanjpcaa
namespace Go.Proofs.Ytgipkcbmanjpcaa
open Go.RowKit
theorem six {v : Int} (h0 : 0 ≤ v) (h1 : v ≤ 5) : v = 0 ∨ v = 1 ∨ v = 2 ∨ v = 3 ∨ v = 4 ∨ v = 5 := by omega
end Go.Proofs.Ytgipkcbmanjpcaa
namespace Go.Proofs.Ytgipkcbmanjpcaa
open Go.RowKit
theorem apartB_neg (p q : Int) : apartB (-p) q = apartB p q := by
  have h : pairB (-p) q = pairB p q := by
    have h2 := pairB_neg p q
    simp only [pairB, numB] at *
    have : decide (-4 ≤ -p ∧ -p ≤ 4) = decide (-4 ≤ p ∧ p ≤ 4) := decide_eq_decide.2 (by omega)
    rw [this]
  rw [apartB, apartB, h, Int.neg_gcd]
theorem apartB_neg2 (p q : Int) : apartB p (-q) = apartB p q := by
  have h : pairB p (-q) = pairB p q := by
    simp only [pairB, numB]
    have : decide (-4 ≤ -q ∧ -q ≤ 4) = decide (-4 ≤ q ∧ q ≤ 4) := decide_eq_decide.2 (by omega)
    rw [this]
  rw [apartB, apartB, h, Int.gcd_neg]
theorem apartB_apart {p q : Int} (h : apartB p q = true) : pairB p q = true ∧ Apart p q := by
  have h' : pairB p q = true ∧ Int.gcd p q = 1 := by simpa [apartB] using h
  exact ⟨h'.1, apart_gcd.1 h'.2⟩
end Go.Proofs.Ytgipkcbmanjpcaa
namespace Go.Proofs.Ytgipkcbmanjpcaa
open Go.RowKit
set_option maxHeartbeats 2000000 in
theorem ascend_yes (B C n : Nat) (v : Value) (f : Nat → Int) (w : World) (h : IsInts B C w v n f) (hn : n ≤ 1000000) (hasc : ∀ i, i + 1 < n → f i < f (i + 1)) :
    Calls Try.prog 25 #[v] w fun e w' => e = .returned (.bool true) ∧ Below w.heap.size w w' := by
  obtain ⟨a, ca, rfl, hC, hs⟩ := h
  go_enter Try.func25, Try.ntmps25
  go_wp2_with fail
  go_loopw [3] (fun c wr => ∃ i : Nat, (i < n ∨ i = 0) ∧ c = .int .i64 ((i : Int) + 1) ∧ Below w.heap.size w wr) (fun c _ => n + 1 - (intOf c).toNat)
  case atStart => exact ⟨0, .inr rfl, rfl, Below.refl _ _⟩
  case round =>
    obtain ⟨i, hi, rfl, hB⟩ := hrel
    by_cases hlt : i + 1 < n
    · rcases hs with rfl | ⟨g, off, rfl, h1, h2, hc, hf⟩
      · omega
      have c1 : wr.cell? ⟨g, off + i, none⟩ = some (.int .i64 (f i)) := (hB.cell (p := ⟨g, off + i, none⟩) (by show g < _; omega)).trans (hc i (by omega))
      have c2 : wr.cell? ⟨g, off + (i + 1), none⟩ = some (.int .i64 (f (i + 1))) := (hB.cell (p := ⟨g, off + (i + 1), none⟩) (by show g < _; omega)).trans (hc (i + 1) hlt)
      have hz := hB.size
      have hd : decide (f (i + 1) ≤ f i) = false := by have := hasc i hlt; simp; omega
      have iy0 : (0 : Int) ≤ (i : Int) + 1 := by omega
      have iy1 : (i : Int) + 1 < (n : Int) := by omega
      have iy2 : ((i : Int) + 1).toNat = i + 1 := by omega
      have iz0 : (0 : Int) ≤ (i : Int) := by omega
      have iz1 : (i : Int) < (n : Int) := by omega
      have V1 : IntKind.i64.wrap ((i : Int) + 1 - 1) = (i : Int) := by rw [IntKind.wrap_i64]; omega
      have V2 : IntKind.i64.wrap (i : Int) = (i : Int) := by rw [IntKind.wrap_i64]; omega
      clear hc hf hasc
      go_wp2
      go_quiet (fail)
      go_wp2
      go_roundw
      case rel => exact ⟨i + 1, by omega, congrArg (Value.int .i64) (by omega), below_drewN hB _⟩
      case measure => simp [intOf]; omega
    · have hge : (n : Int) ≤ (i : Int) + 1 := by omega
      clear hs hasc
      go_wp2
      go_ret
      exact ⟨rfl, hB⟩
end Go.Proofs.Ytgipkcbmanjpcaa
namespace Go.Proofs.Ytgipkcbmanjpcaa
open Go.RowKit
variable {P : Program} {Q : Exit → Act → World → Prop}
theorem wp_region_kept {S : World → Prop} {id : Nat} {a : Act} {w : World} {os : List Oper} (hS : S w.drew) (hm : P.follows .mixedOrders = true) (hB : Region.lexB .any os.toArray = true)
    (h : wpQuiet P os.toArray (fun w' => ∃ i : KeptBy S, w' = i.world) (fun a' => ∀ w', (∃ i : KeptBy S, w' = i.world) → Q .normal a' w') os a) : (Code.region id os.toArray true).wp P Q a w :=
  wp_region_quiet (C := fun w' => ∃ i : KeptBy S, w' = i.world) hm hB ⟨⟨w.drew, hS⟩, rfl⟩ (by simpa using h)
end Go.Proofs.Ytgipkcbmanjpcaa
