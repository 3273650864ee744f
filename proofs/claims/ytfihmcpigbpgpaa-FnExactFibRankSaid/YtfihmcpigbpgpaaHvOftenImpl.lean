/- Contracts that the statement's proof stands on. -/
import Derived.Test.YtfihmcpigbpgpaaAll2
import Derived.Deep.RegionWith
import Derived.Lib.SliceRun
import Derived.Deep.Cut
import Derived.Deep.CutRange

namespace Go.Proofs.Ytfihmcpigbpgpaa
open Go.RowKit Go.Shelf
set_option maxHeartbeats 400000 in
theorem countingOk_is (p : Int) (c : Bool) (w : World) (h : fewB p = c) : Calls Try.prog 30 #[.int .i64 p] w fun e w' => e = .returned (.bool c) ∧ w = w' := by
  subst h
  by_cases h31 : p ≤ 31
  · have HV := Lib.hid (show fewB p = primeB p by simp [fewB, h31])
    go_enter Try.func30, Try.ntmps30
    go_wp2_with fail
    refine (primeOk_at p _).mono ?_
    rintro e wx ⟨rfl, rfl⟩
    go_wp2
    go_ret
    exact ⟨ret_bool HV.out.symm, rfl⟩
  · have HV := Lib.hid (show fewB p = false by simp [fewB, h31])
    have h31' : 31 < p := by omega
    go_enter Try.func30, Try.ntmps30
    go_wp2
    go_ret
    exact ⟨ret_bool HV.out.symm, rfl⟩
set_option maxHeartbeats 2000000 in
theorem timesIn_at (n m : Nat) (w : World) (m1 : 2 ≤ m) (m2 : m ≤ 31) (n1 : 1 ≤ n) (n2 : n < 2 ^ 50) :
    Calls Try.prog 31 #[.int .i64 n, .int .i64 m] w fun e w' => e = .returned (.int .i64 (vp m n : Int)) ∧ w = w' := by
  have hmz : ((m : Int) == 0) = false := by simp; omega
  obtain ⟨v, hv⟩ : ∃ v, vp m n = v := ⟨_, rfl⟩
  have hv5 : v ≤ 50 := by rw [← hv]; exact vp_le m n
  rw [hv]
  go_enter Try.func31, Try.ntmps31
  go_wp2_with fail
  go_loop [0, 5] (fun x y => ∃ a j : Nat, 1 ≤ a ∧ a ≤ n ∧ x = .int .i64 a ∧ y = .int .i64 j ∧ vp m a + j = v) (fun x _ => (intOf x).toNat)
  case atStart => exact ⟨n, 0, by omega, by omega, rfl, rfl, by omega⟩
  case round =>
    obtain ⟨a, j, a1, a2, rfl, rfl, hj⟩ := hrel
    obtain ⟨x, hx, hD⟩ := left_some a m
    by_cases h0 : x = 0
    · subst h0
      obtain ⟨c, hc, hQ⟩ := quot_some a m
      have hst := vp_step m1 a1 (by omega) hx
      rw [hc] at hst
      have hca : c < a := by rw [← hc]; exact Nat.div_lt_self a1 m1
      have hc1 : 1 ≤ c := by
        have h1 := Nat.div_add_mod a m
        rw [hx, hc] at h1
        rcases Nat.eq_zero_or_pos c with h | h
        · rw [h] at h1; omega
        · exact h
      have HJ := Lib.hid (show vp m c + (j + 1) = v by omega)
      have hjb : j < 60 := by omega
      clear hx hc hst hj
      go_wp2
      go_round
      case rel => exact ⟨c, j + 1, hc1, by omega, (by first | rfl | exact congrArg (Value.int .i64) hQ), congrArg (Value.int .i64) (by omega), HJ.out⟩
      case measure => simp [intOf]; omega
    · have hx0 : ((x : Int) == 0) = false := by simp; omega
      have hst := vp_none m1 a1 (by omega) (by rw [hx]; exact h0)
      have HJ := Lib.hid (show v = j by omega)
      clear hx hst hj
      go_wp2
      go_ret
      exact ⟨ret_int (by rw [HJ.out]), rfl⟩
/-- The row of the ranks kept for the prime m: each is 0 or right. -/
def RankRow (R m g : Nat) (W : World) : Prop :=
  W.cell? ⟨R, m, none⟩ = some (.slice (some ⟨g, 0, none⟩) 10 10) ∧ W.frozen? ⟨R, m, none⟩ = false ∧
  ∀ i, i < 10 → ∃ x : Nat, W.cell? ⟨g, i, none⟩ = some (.int .i64 x) ∧ W.frozen? ⟨g, i, none⟩ = false ∧ (x = 0 ∨ (1 ≤ i ∧ x = powT m i))
theorem RankRow.below {R m g : Nat} {W W' : World} (h : RankRow R m g W) (hb : Below W.heap.size W W') : RankRow R m g W' := by
  obtain ⟨h1, h2, h3⟩ := h
  refine ⟨cell_below hb h1, frozen_below hb h1 h2, fun i hi => ?_⟩
  obtain ⟨x, x1, x2, x3⟩ := h3 i hi
  exact ⟨x, cell_below hb x1, frozen_below hb x1 x2, x3⟩
theorem RankRow.put {R m g k : Nat} {W : World} (h : RankRow R m g W) (hg : R ≠ g) (k1 : 1 ≤ k) : RankRow R m g (W.setCell ⟨g, k, none⟩ (.int .i64 (powT m k : Nat))) := by
  obtain ⟨h1, h2, h3⟩ := h
  refine ⟨(set_other hg).trans h1, set_frozen h2, fun i hi => ?_⟩
  obtain ⟨x, x1, x2, x3⟩ := h3 i hi
  by_cases e : k = i
  · subst e
    exact ⟨powT m k, set_same x1, set_frozen x2, .inr ⟨k1, rfl⟩⟩
  · exact ⟨x, (World.cell?_setCell_other _ ⟨g, k, none⟩ ⟨g, i, none⟩ _ (fun e' => by injection e' with _ e'; omega)).trans x1, set_frozen x2, x3⟩
theorem RankRow.drew {R m g : Nat} {W : World} (h : RankRow R m g W) : RankRow R m g W.drew := h.below ((Below.refl _ _).drew)
theorem RankRow.lt {R m g : Nat} {W : World} (h : RankRow R m g W) : R < W.heap.size ∧ g < W.heap.size := by
  obtain ⟨x, x1, _, _⟩ := h.2.2 0 (by omega)
  exact ⟨World.block_lt_of_cell? _ _ h.1, World.block_lt_of_cell? _ _ x1⟩
/-- The table of rows: the slice of it. -/
abbrev tab (R : Nat) : Value := .slice (some ⟨R, 0, none⟩) 32 32
/-- What a function of the table leaves: the number, the row still right. -/
def RankAns (R m g B : Nat) (w : World) (v : Int) (e : Ending) (w' : World) : Prop := e = .returned (.int .i64 v) ∧ RankRow R m g w' ∧ Below B w w'
set_option maxHeartbeats 1000000 in
theorem foundRank_one (R m g B : Nat) (w : World) (hm : m ∈ few) (hB : B ≤ w.heap.size) (hr : RankRow R m g w) :
    Calls Try.prog 46 #[tab R, .int .i64 m, .int .i64 1] w (RankAns R m g B w (powT m 1 : Nat)) := by
  have HR := Lib.hid hr
  have HT := Lib.hid (powT_one hm)
  obtain ⟨rb, rv⟩ := rank_fib hm
  have HB := Lib.hid rb
  have HV := Lib.hid rv
  clear hr rb rv
  go_enter Try.func46, Try.ntmps46
  go_wp2_with fail
  refine (implRank_val 1 (-1) m _ _ _ HV.out HB.out).mono ?_
  rintro e w1 ⟨rfl, hh1⟩
  go_wp2
  go_ret
  exact ⟨ret_int (by rw [HT.out]), HR.out.below hh1, hh1.mono hB⟩
set_option maxHeartbeats 1000000 in
theorem timesAt_by (R m n : Nat) (w : World) (hm : m ∈ few) (n1 : 1 ≤ n) (n2 : n < 2 ^ 50) (S : World → Prop)
    (hone : Calls Try.prog 36 #[tab R, .int .i64 m, .int .i64 1] w fun e w' => e = .returned (.int .i64 (powT m 1 : Nat)) ∧ S w') :
    Calls Try.prog 41 #[tab R, .int .i64 n, .int .i64 m] w fun e w' => e = .returned (.int .i64 (tA m n : Nat)) ∧ S w' := by
  have h2 := few_two hm
  have h31 := (few_prime hm).2
  rw [powT_one hm] at hone
  have hr1 := fibRk_pos m
  obtain ⟨r, hr⟩ : ∃ r, fibRk m = r := ⟨_, rfl⟩
  have hr31 : r ≤ 30 := by rw [← hr, fibRk]; repeat (first | omega | split)
  rw [hr] at hone hr1
  have hrz : ((r : Int) == 0) = false := by simp; omega
  have HO := Lib.hid hone
  clear hone
  go_enter Try.func41, Try.ntmps41
  go_wp2_with fail
  refine (HO.out).mono ?_
  rintro e w1 ⟨rfl, hR1⟩
  obtain ⟨x, hx, hD⟩ := left_some n r
  by_cases h0 : x = 0
  · subst h0
    by_cases hp : m = 2
    · subst hp
      have hr3 : r = 3 := by rw [← hr]; rfl
      subst hr3
      by_cases h6 : n % 6 = 0
      · have hT6 : ((n : Int) % (2 * (3 : Nat)) != 0) = false := by simp; omega
        have HV := Lib.hid (show tA 2 n = 2 + vp 2 n by
          rw [tA, show fibRk 2 = 3 from rfl, if_neg (by omega), if_pos rfl, if_neg (by omega)])
        have hv5 := vp_le 2 n
        obtain ⟨v, hv⟩ : ∃ v, vp 2 n = v := ⟨_, rfl⟩
        have HC := Lib.hid (fun w => timesIn_at n 2 w (by omega) (by omega) n1 n2)
        rw [hv] at HC HV hv5
        clear hx h6 hv
        go_wp2_with fail
        refine (HC.out _).mono ?_
        rintro e wx ⟨rfl, rfl⟩
        go_wp2
        go_ret
        exact ⟨ret_int (by rw [HV.out]; simp), hR1⟩
      · have hT6 : ((n : Int) % (2 * (3 : Nat)) != 0) = true := by simp; omega
        have HV := Lib.hid (show tA 2 n = 1 by
          rw [tA, show fibRk 2 = 3 from rfl, if_neg (by omega), if_pos rfl, if_pos (by omega)])
        clear hx h6
        go_wp2
        go_ret
        exact ⟨ret_int (by rw [HV.out]; rfl), hR1⟩
    · have hp2 : ((m : Int) != 2) = true := by simp; omega
      obtain ⟨q, hq, hQ⟩ := quot_some n r
      have hq1 : 1 ≤ q := by
        have h1 := Nat.div_add_mod n r
        rw [hx, hq] at h1
        rcases Nat.eq_zero_or_pos q with h | h
        · rw [h] at h1; omega
        · exact h
      have hqn : q ≤ n := by rw [← hq]; exact Nat.div_le_self _ _
      have HV := Lib.hid (show tA m n = 1 + vp m q by
        rw [tA, hr, if_neg (by omega), if_neg hp, hq])
      have hv5 := vp_le m q
      obtain ⟨v, hv⟩ : ∃ v, vp m q = v := ⟨_, rfl⟩
      have HC := Lib.hid (fun w => timesIn_at q m w h2 h31 hq1 (by omega))
      rw [hv] at HC HV hv5
      have hwq : IntKind.i64.wrap (q : Int) = (q : Int) := by rw [IntKind.wrap_i64]; omega
      clear hx hv hq hr
      go_wp2_with fail
      refine (HC.out _).mono ?_
      rintro e wx ⟨rfl, rfl⟩
      go_wp2
      go_ret
      exact ⟨ret_int (by rw [HV.out]; simp), hR1⟩
  · have hx0 : ((x : Int) != 0) = true := by simp; omega
    have HV := Lib.hid (show tA m n = 0 by rw [tA, hr, if_pos (by omega)])
    clear hx
    go_wp2
    go_ret
    exact ⟨ret_int (by rw [HV.out]; rfl), hR1⟩
theorem timesAt_of (R m g B n : Nat) (w : World) (hm : m ∈ few) (n1 : 1 ≤ n) (n2 : n < 2 ^ 50)
    (hone : Calls Try.prog 36 #[tab R, .int .i64 m, .int .i64 1] w (RankAns R m g B w (powT m 1 : Nat))) :
    Calls Try.prog 41 #[tab R, .int .i64 n, .int .i64 m] w (RankAns R m g B w (tA m n : Nat)) :=
  timesAt_by R m n w hm n1 n2 (fun w' => RankRow R m g w' ∧ Below B w w') hone
theorem nilSlice (w : World) (a : Option Addr) (n c n' c' : Nat) : (binOp .eql 50 (.slice a n c) (.slice none n' c')).run Try.prog w = .ok (.bool a.isNone) w := Lib.run_eql_slice_nil w _ _ a n c n' c' Try.underlying50
set_option maxHeartbeats 1000000 in
theorem rankOf_of (R m g B k v : Nat) (w : World) (hm : m ∈ few) (k1 : 1 ≤ k) (k2 : k ≤ 9) (hB : B ≤ w.heap.size) (hBg : B ≤ g) (hRg : R ≠ g) (hr : RankRow R m g w) (hv : powT m k = v)
    (hf : ∀ w : World, B ≤ w.heap.size → RankRow R m g w → Calls Try.prog 46 #[tab R, .int .i64 m, .int .i64 k] w (RankAns R m g B w (v : Nat))) :
    Calls Try.prog 36 #[tab R, .int .i64 m, .int .i64 k] w (RankAns R m g B w (v : Nat)) := by
  have h2 := few_two hm
  have h31 := (few_prime hm).2
  have qn := nilSlice
  obtain ⟨x, c1, c2, c3⟩ := hr.2.2 k (by omega)
  have r1 := hr.1
  have r2 := hr.2.1
  have hidx : 0 ≤ (m : Int) ∧ (m : Int) < 32 := by omega
  have hkdx : 0 ≤ (k : Int) ∧ (k : Int) < 10 := by omega
  have HR := Lib.hid hr
  have HF := Lib.hid hf
  have HW := Lib.hid hv
  clear hr hf hv
  by_cases hx : x = 0
  · subst hx
    clear c3
    go_enter Try.func36, Try.ntmps36
    go_wp2_with fail
    go_region_with ((go_at_call 46; refine (HF.out _ ?_ ?_).mono ?_; (exact hB); (first | exact HR.out | exact HR.out.drew); rintro e w1 ⟨rfl, hR1, hh1⟩; have r11 := hR1.1; obtain ⟨y, d1, d2, _⟩ := hR1.2.2 k (by omega)))
    all_goals go_wp2
    all_goals go_ret
    all_goals exact ⟨rfl, by rw [← HW.out]; exact hR1.put hRg k1, (((Below.refl _ _).drew).trans hh1).setCell hBg _⟩
  · have hxz : ((x : Int) == 0) = false := by simp; omega
    obtain rfl : x = v := by rw [← HW.out]; omega
    clear c3 HF
    go_enter Try.func36, Try.ntmps36
    go_wp2
    go_ret
    exact ⟨rfl, HR.out, Below.refl _ _⟩
theorem powT_next {m k : Nat} (hm : m ∈ few) (k1 : 1 ≤ k) (k2 : k ≤ 8) : powT m (k + 1) = if k + 1 ≤ tA m (powT m k) then powT m k else powT m k * m := by
  have hall : few.all (fun m => (List.range 9).all fun k => k == 0 || decide (powT m (k + 1) = if k + 1 ≤ tA m (powT m k) then powT m k else powT m k * m)) = true := by decide +kernel
  have h := List.all_eq_true.1 (List.all_eq_true.1 hall m hm) k (by simp; omega)
  have hk0 : (k == 0) = false := by simp; omega
  rw [hk0, Bool.false_or] at h
  exact of_decide_eq_true h
set_option maxHeartbeats 1000000 in
theorem foundRank_next (R m g B k : Nat) (w : World) (hm : m ∈ few) (k1 : 1 ≤ k) (k2 : k ≤ 8) (hB : B ≤ w.heap.size) (hr : RankRow R m g w)
    (hk : ∀ w : World, B ≤ w.heap.size → RankRow R m g w → Calls Try.prog 36 #[tab R, .int .i64 m, .int .i64 k] w (RankAns R m g B w (powT m k : Nat)))
    (hone : ∀ w : World, B ≤ w.heap.size → RankRow R m g w → Calls Try.prog 36 #[tab R, .int .i64 m, .int .i64 1] w (RankAns R m g B w (powT m 1 : Nat))) :
    Calls Try.prog 46 #[tab R, .int .i64 m, .int .i64 ((k : Int) + 1)] w (RankAns R m g B w (powT m (k + 1) : Nat)) := by
  have h31 := (few_prime hm).2
  have hne : ((k : Int) + 1 == 1) = false := by simp; omega
  have hnx := powT_next hm k1 k2
  have hbd := powT_bd hm (show k + 1 ≤ 9 by omega)
  have hba := powT_bd hm (show k ≤ 9 by omega)
  have hpa := powT_pos hm k
  have hta := tA_le m (powT m k)
  have HT := Lib.hid (fun w hw hr => timesAt_of R m g B (powT m k) w hm hpa hba (hone w hw hr))
  obtain ⟨a, ha⟩ : ∃ a, powT m k = a := ⟨_, rfl⟩
  obtain ⟨b, hb⟩ : ∃ b, powT m (k + 1) = b := ⟨_, rfl⟩
  rw [ha] at hnx hba hpa hk HT hta
  obtain ⟨t, ht⟩ : ∃ t, tA m a = t := ⟨_, rfl⟩
  rw [ht] at hnx HT hta
  rw [hb] at hnx hbd ⊢
  have HK := Lib.hid hk
  have HR := Lib.hid hr
  have HN := Lib.hid hnx
  clear hk hone hr ha hb ht hnx
  go_enter Try.func46, Try.ntmps46
  go_wp2_with fail
  refine (HK.out _ hB HR.out).mono ?_
  rintro e w1 ⟨rfl, hR1, hh1⟩
  have hB1 : B ≤ w1.heap.size := Nat.le_trans hB hh1.size
  by_cases hge : k + 1 ≤ t
  · have hnx := HN.out
    rw [if_pos hge] at hnx
    subst hnx
    clear HN
    have hgi : ((k : Int) + 1 ≤ (t : Int)) := by omega
    go_wp2_with fail
    refine (HT.out _ hB1 hR1).mono ?_
    rintro e w2 ⟨rfl, hR2, hh2⟩
    go_wp2
    go_ret
    exact ⟨rfl, hR2, hh1.trans hh2⟩
  · have hnx := HN.out
    rw [if_neg hge] at hnx
    have hgi : ¬ ((k : Int) + 1 ≤ (t : Int)) := by omega
    have hmul : (a : Int) * (m : Int) = (b : Int) := by rw [hnx]; simp
    have HM := Lib.hid hmul
    have U : IntKind.i64.wrap ((a : Int) * (m : Int)) = (a : Int) * (m : Int) := by rw [IntKind.wrap_i64, hmul]; omega
    clear hnx hmul HN
    go_wp2_with fail
    refine (HT.out _ hB1 hR1).mono ?_
    rintro e w2 ⟨rfl, hR2, hh2⟩
    go_wp2
    go_ret
    exact ⟨ret_int (by first | exact HM.out | (rw [U]; exact HM.out)), hR2, hh1.trans hh2⟩
theorem ranks_set (R m g B : Nat) (hm : m ∈ few) (hBg : B ≤ g) (hRg : R ≠ g) : ∀ k : Nat, k ≤ 8 →
    (∀ w : World, B ≤ w.heap.size → RankRow R m g w → Calls Try.prog 46 #[tab R, .int .i64 m, .int .i64 ((k : Int) + 1)] w (RankAns R m g B w (powT m (k + 1) : Nat))) ∧
    (∀ w : World, B ≤ w.heap.size → RankRow R m g w → Calls Try.prog 36 #[tab R, .int .i64 m, .int .i64 ((k : Int) + 1)] w (RankAns R m g B w (powT m (k + 1) : Nat))) := by
  have one : ∀ w : World, B ≤ w.heap.size → RankRow R m g w → Calls Try.prog 36 #[tab R, .int .i64 m, .int .i64 1] w (RankAns R m g B w (powT m 1 : Nat)) :=
    fun w hB hr => rankOf_of R m g B 1 _ w hm (by omega) (by omega) hB hBg hRg hr rfl fun w hB hr => foundRank_one R m g B w hm hB hr
  intro k
  induction k with
  | zero => exact fun _ => ⟨fun w hB hr => foundRank_one R m g B w hm hB hr, one⟩
  | succ k ih =>
    intro hk
    have hf : ∀ w : World, B ≤ w.heap.size → RankRow R m g w → Calls Try.prog 46 #[tab R, .int .i64 m, .int .i64 (((k + 1 : Nat) : Int) + 1)] w (RankAns R m g B w (powT m (k + 1 + 1) : Nat)) :=
      fun w hB hr => foundRank_next R m g B (k + 1) w hm (by omega) (by omega) hB hr (by simpa using (ih (by omega)).2) one
    exact ⟨hf, fun w hB hr => rankOf_of R m g B (k + 1 + 1) _ w hm (by omega) (by omega) hB hBg hRg hr rfl hf⟩
theorem info_slice : (Try.prog.info? 50).map (fun i => (i.zero, i.size, i.bytes)) = some (some (.slice none 0 0), 1, 24) := by kernel_rfl
theorem madeNils_at (n x : Nat) (h : x < n) : (madeCells #[.slice none 0 0] n)[x]? = some (.slice none 0 0) := by
  rw [← Array.getElem?_toList, toList_madeCells_one]
  simp [h]
/-- The table of rows, none of which was asked for. -/
def Tab (R : Nat) (W : World) : Prop := ∀ i, i < 32 → W.cell? ⟨R, i, none⟩ = some (.slice none 0 0) ∧ W.frozen? ⟨R, i, none⟩ = false
theorem Tab.made (W : World) (t : TypeId) : Tab W.heap.size (W.alloc (.cells (madeCells #[.slice none 0 0] 32) t)) := by
  intro x hx
  have := heap_alloc_new W (.cells (madeCells #[.slice none 0 0] 32) t)
  constructor
  · simp only [World.cell?, this]
    simp [madeNils_at 32 x hx]
  · simp only [World.frozen?, this]
    simp
theorem RankRow.made {R m : Nat} {W : World} (t : TypeId) (h : W.cell? ⟨R, m, none⟩ = some (.slice none 0 0)) (hf : W.frozen? ⟨R, m, none⟩ = false) : RankRow R m W.heap.size ((W.setCell ⟨R, m, none⟩ (.slice (some ⟨W.heap.size, 0, none⟩) 10 10)).alloc (.cells (madeCells #[.int .i64 0] 10) t)) := by
  have hR : R < W.heap.size := World.block_lt_of_cell? _ _ h
  obtain ⟨V, hV⟩ : ∃ V, W.setCell ⟨R, m, none⟩ (.slice (some ⟨W.heap.size, 0, none⟩) 10 10) = V := ⟨_, rfl⟩
  have hz : V.heap.size = W.heap.size := by rw [← hV]; simp [World.setCell]
  have c0 : V.cell? ⟨R, m, none⟩ = some (.slice (some ⟨W.heap.size, 0, none⟩) 10 10) := by rw [← hV]; exact set_same h
  have f0 : V.frozen? ⟨R, m, none⟩ = false := by rw [← hV]; exact set_frozen hf
  rw [hV]
  have hb : Below V.heap.size V (V.alloc (.cells (madeCells #[.int .i64 0] 10) t)) := (Below.refl _ _).alloc (Nat.le_refl _) _
  have hn := heap_alloc_new V (.cells (madeCells #[.int .i64 0] 10) t)
  rw [hz] at hn
  refine ⟨cell_below hb c0, frozen_below hb c0 f0, fun i hi => ⟨0, ?_, ?_, .inl rfl⟩⟩
  · simp only [World.cell?, hn]
    simp [madeCells_at 10 i hi]
  · simp only [World.frozen?, hn]
    simp
set_option maxHeartbeats 400000 in
theorem noPowerRanks_at (w : World) : Calls Try.prog 35 #[] w fun e w' => e = .returned (tab w.heap.size) ∧ Tab w.heap.size w' ∧ w.heap.size < w'.heap.size ∧ Below w.heap.size w w' := by
  obtain ⟨i0, hi0, hz0, hzs1, hz2⟩ := info_parts info_slice
  have hmk : ∀ W : World, (Instr.makeSlice 43 (.int .i64 32) (.int .i64 32)).run Try.prog W = .ok (.slice (some ⟨W.heap.size, 0, none⟩) 32 32) (W.alloc (.cells (madeCells #[.slice none 0 0] 32) 50)) := by
    intro W
    have hr := run_make W 43 50 i0 (.slice none 0 0) Try.underlying43 hi0 hz0 .i64 .i64 32 32 (by omega) (by omega) (by rw [hz2]; omega) (by omega)
    rw [hzs1] at hr
    exact hr
  have HL := Lib.hid (Tab.made w 50)
  clear hi0 hz0 hzs1 hz2 i0
  go_enter Try.func35, Try.ntmps35
  go_wp2
  go_ret
  exact ⟨rfl, HL.out, by simp, (Below.refl _ _).alloc (Nat.le_refl _) _⟩
theorem world_named {P : Program} {Q : Exit → Act → World → Prop} {c : Code} {a : Act} {w : World} (h : ∀ W, W = w → c.wp P Q a W) : c.wp P Q a w := h w rfl
set_option maxHeartbeats 1000000 in
theorem rankOf_new (R m B k v : Nat) (w : World) (hm : m ∈ few) (k1 : 1 ≤ k) (k2 : k ≤ 9) (hB : B ≤ w.heap.size) (hBR : B ≤ R) (ht : Tab R w) (hv : powT m k = v) :
    Calls Try.prog 36 #[tab R, .int .i64 m, .int .i64 k] w fun e w' => ∃ g, B ≤ g ∧ R ≠ g ∧ RankAns R m g B w (v : Nat) e w' := by
  have h2 := few_two hm
  have h31 := (few_prime hm).2
  have qn := nilSlice
  obtain ⟨c0, f0⟩ := ht m (by omega)
  have hRw : R < w.heap.size := World.block_lt_of_cell? _ _ c0
  have hidx : 0 ≤ (m : Int) ∧ (m : Int) < 32 := by omega
  have hkdx : 0 ≤ (k : Int) ∧ (k : Int) < 10 := by omega
  obtain ⟨i0, hi0, hz0, hzs1, hz2⟩ := info_parts info_int
  have hmk : ∀ W : World, (Instr.makeSlice 50 (.int .i64 10) (.int .i64 10)).run Try.prog W = .ok (.slice (some ⟨W.heap.size, 0, none⟩) 10 10) (W.alloc (.cells (madeCells #[.int .i64 0] 10) 3)) := by
    intro W
    have hr := run_make W 50 3 i0 (.int .i64 0) Try.underlying50 hi0 hz0 .i64 .i64 10 10 (by omega) (by omega) (by rw [hz2]; omega) (by omega)
    rw [hzs1] at hr
    exact hr
  have HRR := Lib.hid (RankRow.made 3 c0 f0)
  have HW := Lib.hid hv
  have HF := Lib.hid (show ∀ W : World, B ≤ W.heap.size → RankRow R m w.heap.size W → Calls Try.prog 46 #[tab R, .int .i64 m, .int .i64 k] W (RankAns R m w.heap.size B W (v : Nat)) by
    obtain ⟨j, rfl⟩ : ∃ j, k = j + 1 := ⟨k - 1, by omega⟩
    rw [← hv]
    exact (ranks_set R m w.heap.size B hm hB (by omega) j (by omega)).1)
  clear ht hi0 hz0 hzs1 hz2 i0 hv
  go_enter Try.func36, Try.ntmps36
  go_upto_region 3 with fail
  refine world_named ?_
  intro W hW
  have HR : RankRow R m w.heap.size W := by rw [hW]; exact HRR.out
  have hBW : Below B w W := by
    rw [hW]
    (repeat (first | exact Below.refl _ _ | refine Below.setCell ?_ (by first | omega | (simp <;> omega)) _ | refine Below.alloc ?_ (by first | omega | (simp <;> omega)) _ | refine Below.drew ?_ | refine Below.trans ?_ (Below.mono (by assumption) (by first | omega | (simp <;> omega)))))
  have hBz : B ≤ W.heap.size := Nat.le_trans hB hBW.size
  clear hW HRR c0 f0
  have HRW := Lib.hid HR
  obtain ⟨x, c1, c2, c3⟩ := HR.2.2 k (by omega)
  have r1 := HR.1
  have r2 := HR.2.1
  clear HR
  obtain ⟨g, hg⟩ : ∃ g, w.heap.size = g := ⟨_, rfl⟩
  rw [hg] at HRW HF c1 c2 r1 hRw ⊢
  have hBg : B ≤ g := by omega
  have hRg : R ≠ g := by omega
  by_cases hx : x = 0
  · subst hx
    clear c3
    go_wp2_with fail
    go_region_with ((go_at_call 46; refine (HF.out _ ?_ ?_).mono ?_; (exact hBz); (first | exact HRW.out | exact HRW.out.drew); rintro e w1 ⟨rfl, hR1, hh1⟩; have r11 := hR1.1; obtain ⟨y, d1, d2, _⟩ := hR1.2.2 k (by omega)))
    all_goals go_wp2
    all_goals go_ret
    all_goals exact ⟨g, hBg, hRg, rfl, by rw [← HW.out]; exact hR1.put hRg k1, ((hBW.drew).trans hh1).setCell hBg _⟩
  · have hxz : ((x : Int) == 0) = false := by simp; omega
    obtain rfl : x = v := by rw [← HW.out]; omega
    clear c3 HF
    go_wp2
    go_ret
    exact ⟨g, hBg, hRg, rfl, HRW.out, hBW⟩
set_option maxHeartbeats 1000000 in
theorem implTimesIn_any (n p : Int) (w : World) : Calls Try.prog 12 #[.int .i64 n, .int .i64 p] w fun e w' => e = .returned (.int .i64 (timesInV n p)) ∧ Below w.heap.size w w' := by
  cases hf : fewB p with
  | false =>
    have HV := Lib.hid (timesInV_no (n := n) (p := p) (by simp [timesInB, hf]))
    have HP := Lib.hid hf
    clear hf
    go_enter Try.func12, Try.ntmps12
    go_wp2_with fail
    refine (countingOk_is _ false _ HP.out).mono ?_
    rintro e wx ⟨rfl, rfl⟩
    go_wp2
    go_ret
    exact ⟨ret_int HV.out.symm, Below.refl _ _⟩
  | true =>
    obtain ⟨m, rfl, hm, m1, m2⟩ := fewB_true hf
    have HP := Lib.hid hf
    cases hn : inB n 1 1000000000 with
    | false =>
      have HV := Lib.hid (timesInV_no (n := n) (p := m) (by simp [timesInB, hn]))
      have hn' := inB_false hn
      clear hf hn
      by_cases hlt : n < 1
      · go_enter Try.func12, Try.ntmps12
        go_wp2_with fail
        refine (countingOk_is _ true _ HP.out).mono ?_
        rintro e wx ⟨rfl, rfl⟩
        go_wp2
        go_ret
        exact ⟨ret_int HV.out.symm, Below.refl _ _⟩
      · have hgt : 1000000000 < n := by omega
        go_enter Try.func12, Try.ntmps12
        go_wp2_with fail
        refine (countingOk_is _ true _ HP.out).mono ?_
        rintro e wx ⟨rfl, rfl⟩
        go_wp2
        go_ret
        exact ⟨ret_int HV.out.symm, Below.refl _ _⟩
    | true =>
      obtain ⟨n1, n2⟩ := inB_true hn
      obtain ⟨k, rfl⟩ := Int.eq_ofNat_of_zero_le (show 0 ≤ n by omega)
      have HV := Lib.hid (timesInV_is (n := k) (p := m) (by rw [timesInB, hf, hn]; rfl))
      clear hf hn
      go_enter Try.func12, Try.ntmps12
      go_wp2_with fail
      refine (countingOk_is _ true _ HP.out).mono ?_
      rintro e wx ⟨rfl, rfl⟩
      go_wp2_with fail
      refine (timesIn_at k m _ m1 m2 (by omega) (by omega)).mono ?_
      rintro e wx ⟨rfl, rfl⟩
      go_wp2
      go_ret
      exact ⟨ret_int HV.out.symm, Below.refl _ _⟩
set_option maxHeartbeats 1000000 in
theorem implFib_any (p : Int) (w : World) : Calls Try.prog 17 #[.int .i64 p] w fun e w' => e = .returned (.int .i64 (fibRankV p)) ∧ Below w.heap.size w w' := by
  cases hf : fewB p with
  | false =>
    have HV := Lib.hid (fibRankV_no hf)
    have HP := Lib.hid hf
    clear hf
    go_enter Try.func17, Try.ntmps17
    go_wp2_with fail
    refine (countingOk_is _ false _ HP.out).mono ?_
    rintro e wx ⟨rfl, rfl⟩
    go_wp2
    go_ret
    exact ⟨ret_int HV.out.symm, Below.refl _ _⟩
  | true =>
    obtain ⟨m, rfl, hm, m1, m2⟩ := fewB_true hf
    have HP := Lib.hid hf
    have HV := Lib.hid (show fibRankV m = (powT m 1 : Nat) by rw [fibRankV_is hm, powT_one hm])
    clear hf
    go_enter Try.func17, Try.ntmps17
    go_wp2_with fail
    refine (countingOk_is _ true _ HP.out).mono ?_
    rintro e wx ⟨rfl, rfl⟩
    go_wp2_with fail
    refine (noPowerRanks_at _).mono ?_
    rintro e w1 ⟨rfl, hT1, hz1, hh1⟩
    go_wp2_with fail
    refine (rankOf_new _ m w.heap.size 1 _ _ hm (by omega) (by omega) (by omega) (Nat.le_refl _) hT1 rfl).mono ?_
    rintro e w2 ⟨g, _, _, rfl, _, hh2⟩
    go_wp2
    go_ret
    exact ⟨ret_int HV.out.symm, hh1.trans hh2⟩
set_option maxHeartbeats 1000000 in
theorem implPowRank_any (p k : Int) (w : World) : Calls Try.prog 25 #[.int .i64 p, .int .i64 k] w fun e w' => e = .returned (.int .i64 (powerV p k)) ∧ Below w.heap.size w w' := by
  cases hf : fewB p with
  | false =>
    have HV := Lib.hid (powerV_no (p := p) (k := k) (by simp [powerB, hf]))
    have HP := Lib.hid hf
    clear hf
    go_enter Try.func25, Try.ntmps25
    go_wp2_with fail
    refine (countingOk_is _ false _ HP.out).mono ?_
    rintro e wx ⟨rfl, rfl⟩
    go_wp2
    go_ret
    exact ⟨ret_int HV.out.symm, Below.refl _ _⟩
  | true =>
    obtain ⟨m, rfl, hm, m1, m2⟩ := fewB_true hf
    have HP := Lib.hid hf
    cases hn : inB k 1 9 with
    | false =>
      have HV := Lib.hid (powerV_no (p := m) (k := k) (by simp [powerB, hn]))
      have hn' := inB_false hn
      clear hf hn
      by_cases hlt : k < 1
      · go_enter Try.func25, Try.ntmps25
        go_wp2_with fail
        refine (countingOk_is _ true _ HP.out).mono ?_
        rintro e wx ⟨rfl, rfl⟩
        go_wp2
        go_ret
        exact ⟨ret_int HV.out.symm, Below.refl _ _⟩
      · have hgt : 9 < k := by omega
        go_enter Try.func25, Try.ntmps25
        go_wp2_with fail
        refine (countingOk_is _ true _ HP.out).mono ?_
        rintro e wx ⟨rfl, rfl⟩
        go_wp2
        go_ret
        exact ⟨ret_int HV.out.symm, Below.refl _ _⟩
    | true =>
      obtain ⟨n1, n2⟩ := inB_true hn
      obtain ⟨j, rfl⟩ := Int.eq_ofNat_of_zero_le (show 0 ≤ k by omega)
      have HV := Lib.hid (powerV_is (p := m) (k := j) (by rw [powerB, hf, hn]; rfl))
      clear hf hn
      go_enter Try.func25, Try.ntmps25
      go_wp2_with fail
      refine (countingOk_is _ true _ HP.out).mono ?_
      rintro e wx ⟨rfl, rfl⟩
      go_wp2_with fail
      refine (noPowerRanks_at _).mono ?_
      rintro e w1 ⟨rfl, hT1, hz1, hh1⟩
      go_wp2_with fail
      refine (rankOf_new _ m w.heap.size j _ _ hm (by omega) (by omega) (by omega) (Nat.le_refl _) hT1 rfl).mono ?_
      rintro e w2 ⟨g, _, _, rfl, _, hh2⟩
      go_wp2
      go_ret
      exact ⟨ret_int HV.out.symm, hh1.trans hh2⟩
set_option maxHeartbeats 1000000 in
theorem timesAt_new (R m B n : Nat) (w : World) (hm : m ∈ few) (n1 : 1 ≤ n) (n2 : n < 2 ^ 50) (hB : B ≤ w.heap.size) (hBR : B ≤ R) (ht : Tab R w) :
    Calls Try.prog 41 #[tab R, .int .i64 n, .int .i64 m] w fun e w' => e = .returned (.int .i64 (tA m n : Nat)) ∧ Below B w w' := by
  have h := timesAt_by R m n w hm n1 n2 (fun w' => Below B w w') (by
    refine (rankOf_new R m B 1 _ w hm (by omega) (by omega) hB hBR ht rfl).mono ?_
    rintro e w1 ⟨g, _, _, rfl, _, hh⟩
    exact ⟨rfl, hh⟩)
  exact h
set_option maxHeartbeats 1000000 in
theorem implTimesAt_any (n p : Int) (w : World) : Calls Try.prog 21 #[.int .i64 n, .int .i64 p] w fun e w' => e = .returned (.int .i64 (timesAtV n p)) ∧ Below w.heap.size w w' := by
  cases hf : fewB p with
  | false =>
    have HV := Lib.hid (timesAtV_no (n := n) (p := p) (by simp [timesInB, hf]))
    have HP := Lib.hid hf
    clear hf
    go_enter Try.func21, Try.ntmps21
    go_wp2_with fail
    refine (countingOk_is _ false _ HP.out).mono ?_
    rintro e wx ⟨rfl, rfl⟩
    go_wp2
    go_ret
    exact ⟨ret_int HV.out.symm, Below.refl _ _⟩
  | true =>
    obtain ⟨m, rfl, hm, m1, m2⟩ := fewB_true hf
    have HP := Lib.hid hf
    by_cases hlt : n < 1
    · have HV := Lib.hid (timesAtV_no (n := n) (p := m) (by simp [timesInB, inB_no (n := n) (a := 1) (b := 1000000000) (by omega)]))
      clear hf
      go_enter Try.func21, Try.ntmps21
      go_wp2_with fail
      refine (countingOk_is _ true _ HP.out).mono ?_
      rintro e wx ⟨rfl, rfl⟩
      go_wp2
      go_ret
      exact ⟨ret_int HV.out.symm, Below.refl _ _⟩
    · cases hn : inB n 0 1000000000 with
      | false =>
        have hn' := inB_false hn
        have HV := Lib.hid (timesAtV_no (n := n) (p := m) (by simp [timesInB, inB_no (n := n) (a := 1) (b := 1000000000) (by omega)]))
        have HN := Lib.hid hn
        clear hf hn hn'
        go_enter Try.func21, Try.ntmps21
        go_wp2_with fail
        refine (countingOk_is _ true _ HP.out).mono ?_
        rintro e wx ⟨rfl, rfl⟩
        go_wp2_with fail
        refine (farOk_is _ false _ HN.out).mono ?_
        rintro e wx ⟨rfl, rfl⟩
        go_wp2
        go_ret
        exact ⟨ret_int HV.out.symm, Below.refl _ _⟩
      | true =>
        obtain ⟨n1, n2⟩ := inB_true hn
        obtain ⟨j, rfl⟩ := Int.eq_ofNat_of_zero_le (show 0 ≤ n by omega)
        have HV := Lib.hid (timesAtV_is (n := j) (p := m) (timesInB_mk hm (by omega) (by omega)))
        have HN := Lib.hid hn
        clear hf hn
        go_enter Try.func21, Try.ntmps21
        go_wp2_with fail
        refine (countingOk_is _ true _ HP.out).mono ?_
        rintro e wx ⟨rfl, rfl⟩
        go_wp2_with fail
        refine (farOk_is _ true _ HN.out).mono ?_
        rintro e wx ⟨rfl, rfl⟩
        go_wp2_with fail
        refine (noPowerRanks_at _).mono ?_
        rintro e w1 ⟨rfl, hT1, hz1, hh1⟩
        go_wp2_with fail
        refine (timesAt_new _ m w.heap.size j _ hm (by omega) (by omega) (by omega) (Nat.le_refl _) hT1).mono ?_
        rintro e w2 ⟨rfl, hh2⟩
        go_wp2
        go_ret
        exact ⟨ret_int HV.out.symm, hh1.trans hh2⟩
end Go.Proofs.Ytfihmcpigbpgpaa
