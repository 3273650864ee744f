/- Contracts that the statement's proof stands on. -/
import Derived.Test.YtlmlcbhllodncaaAll0b
import Derived.Lib.Bytealg

namespace Go.Proofs.Ytlmlcbhllodncaa
open Go.RowKit
set_option maxHeartbeats 1000000 in
theorem implColours_at (s d : Int) (w : World) : Calls Try.prog 18 #[.int .i64 s, .int .i64 d] w fun e w' => e = .returned (.bool (colB s d)) ∧ w = w' := by
  by_cases h0 : 0 ≤ s
  · by_cases h1 : s ≤ 3
    · by_cases h2 : 0 ≤ d
      · by_cases h3 : d ≤ 3
        · have H := Lib.hid (show colB s d = true by rw [colB, inB_mk h0 h1, inB_mk h2 h3]; rfl)
          go_enter Try.func18, Try.ntmps18
          go_wp2
          go_ret
          exact ⟨ret_bool H.out.symm, rfl⟩
        · have H := Lib.hid (show colB s d = false by rw [colB, inB_no (n := d) (by omega), Bool.and_false])
          have h3' : 3 < d := by omega
          go_enter Try.func18, Try.ntmps18
          go_wp2
          go_ret
          exact ⟨ret_bool H.out.symm, rfl⟩
      · have H := Lib.hid (show colB s d = false by rw [colB, inB_no (n := d) (by omega), Bool.and_false])
        have h2' : d < 0 := by omega
        go_enter Try.func18, Try.ntmps18
        go_wp2
        go_ret
        exact ⟨ret_bool H.out.symm, rfl⟩
    · have H := Lib.hid (show colB s d = false by rw [colB, inB_no (n := s) (by omega)]; rfl)
      have h1' : 3 < s := by omega
      go_enter Try.func18, Try.ntmps18
      go_wp2
      go_ret
      exact ⟨ret_bool H.out.symm, rfl⟩
  · have H := Lib.hid (show colB s d = false by rw [colB, inB_no (n := s) (by omega)]; rfl)
    have h0' : s < 0 := by omega
    go_enter Try.func18, Try.ntmps18
    go_wp2
    go_ret
    exact ⟨ret_bool H.out.symm, rfl⟩
theorem implColours_eq (s d : Int) (c : Bool) (w : World) (h : colB s d = c) : Calls Try.prog 18 #[.int .i64 s, .int .i64 d] w fun e w' => e = .returned (.bool c) ∧ w = w' := by rw [← h]; exact implColours_at s d w
theorem implColours_any (s d : Int) (w : World) : Calls Try.prog 18 #[.int .i64 s, .int .i64 d] w fun e w' => e = .returned (.bool (colB s d)) ∧ Below w.heap.size w w' := (implColours_at s d w).mono fun e w' h => ⟨h.1, by rw [← h.2]; exact Below.refl _ _⟩
set_option maxHeartbeats 1000000 in
theorem cellsOk_at (n : Int) (w : World) : Calls Try.prog 54 #[.int .i64 n] w fun e w' => e = .returned (.bool (inB n 0 8)) ∧ w = w' := by
  by_cases h0 : 0 ≤ n
  · by_cases h1 : n ≤ 8
    · have H := Lib.hid (show inB n 0 8 = true by exact inB_mk h0 h1)
      go_enter Try.func54, Try.ntmps54
      go_wp2
      go_ret
      exact ⟨ret_bool H.out.symm, rfl⟩
    · have H := Lib.hid (show inB n 0 8 = false by exact inB_no (by omega))
      have h1' : 8 < n := by omega
      go_enter Try.func54, Try.ntmps54
      go_wp2
      go_ret
      exact ⟨ret_bool H.out.symm, rfl⟩
  · have H := Lib.hid (show inB n 0 8 = false by exact inB_no (by omega))
    have h0' : n < 0 := by omega
    go_enter Try.func54, Try.ntmps54
    go_wp2
    go_ret
    exact ⟨ret_bool H.out.symm, rfl⟩
theorem cellsOk_is (n : Int) (c : Bool) (w : World) (h : inB n 0 8 = c) : Calls Try.prog 54 #[.int .i64 n] w fun e w' => e = .returned (.bool c) ∧ w = w' := by rw [← h]; exact cellsOk_at n w
set_option maxHeartbeats 2000000 in
theorem implCount_any (c s d : Int) (w : World) : Calls Try.prog 26 #[.int .i64 c, .int .i64 s, .int .i64 d] w fun e w' => e = .returned (.int .i64 (countV c s d)) ∧ Below w.heap.size w w' := by
  cases hn : inB c 0 8 with
  | false =>
    have HV := Lib.hid (countV_no (c := c) (s := s) (d := d) (by simp [tileB, hn]))
    have HN := Lib.hid hn
    clear hn
    go_enter Try.func26, Try.ntmps26
    go_wp2_with fail
    refine (cellsOk_is c false _ HN.out).mono ?_
    rintro e wx ⟨rfl, rfl⟩
    
    go_wp2
    go_ret
    exact ⟨ret_int HV.out.symm, Below.refl _ _⟩
  | true =>
    cases hc : colB s d with
    | false =>
      have HV := Lib.hid (countV_no (c := c) (s := s) (d := d) (by simp [tileB, hc]))
      have HN := Lib.hid hn
      have HC := Lib.hid hc
      clear hn hc
      go_enter Try.func26, Try.ntmps26
      go_wp2_with fail
      refine (cellsOk_is _ true _ HN.out).mono ?_
      rintro e wx ⟨rfl, rfl⟩
      
      go_wp2_with fail
      refine (implColours_eq s d false _ HC.out).mono ?_
      rintro e wx ⟨rfl, rfl⟩
      
      go_wp2
      go_ret
      exact ⟨ret_int HV.out.symm, Below.refl _ _⟩
    | true =>
      have ht : tileB c s d = true := by simp [tileB, hc, hn]
      obtain ⟨n, x, y, rfl, rfl, rfl, n8, x3, y3⟩ := tileB_true ht
      have HV := Lib.hid (countV_is ht)
      have HR := Lib.hid (cntN_row x y n).symm
      have HP := Lib.hid (show pairB (x : Int) (-(y : Int)) = true from pairB_mk (by omega) (by omega) (by omega) (by omega))
      have HN := Lib.hid hn
      have HC := Lib.hid hc
      have U1 : IntKind.i64.wrap (-(y : Int)) = -(y : Int) := by rw [IntKind.wrap_i64]; omega
      have U2 : IntKind.i64.wrap ((n : Int) + 1) = ((n + 1 : Nat) : Int) := by rw [IntKind.wrap_i64]; omega
      clear hn hc ht
      go_enter Try.func26, Try.ntmps26
      go_wp2_with fail
      refine (cellsOk_is _ true _ HN.out).mono ?_
      rintro e wx ⟨rfl, rfl⟩
      
      go_wp2_with fail
      refine (implColours_eq _ _ true _ HC.out).mono ?_
      rintro e wx ⟨rfl, rfl⟩
      
      go_wp2_with fail
      refine (firstOf_at x (-(y : Int)) (n + 1) _ _ _ (by omega) HP.out (by omega) HR.out).mono ?_
      rintro e w1 ⟨rfl, hh1⟩
      go_wp2
      go_ret
      exact ⟨ret_int HV.out.symm, hh1⟩
theorem implCount_eq (c s d v : Int) (w : World) (h : countV c s d = v) : Calls Try.prog 26 #[.int .i64 c, .int .i64 s, .int .i64 d] w fun e w' => e = .returned (.int .i64 v) ∧ Below w.heap.size w w' := by rw [← h]; exact implCount_any c s d w
theorem cut_fit {b c : Int} : inB b 0 c = (decide (0 ≤ b) && decide (b ≤ c)) := by rw [inB, Bool.eq_iff_iff]; simp
set_option maxHeartbeats 2000000 in
theorem implCuts_any (c b s d : Int) (w : World) : Calls Try.prog 40 #[.int .i64 c, .int .i64 b, .int .i64 s, .int .i64 d] w fun e w' => e = .returned (.int .i64 (cutsV c b s d)) ∧ Below w.heap.size w w' := by
  cases hn : inB c 0 8 with
  | false =>
    have HV := Lib.hid (cutsV_no (c := c) (b := b) (s := s) (d := d) (by simp [cutsB, tileB, hn]))
    have HN := Lib.hid hn
    clear hn
    go_enter Try.func40, Try.ntmps40
    go_wp2_with fail
    refine (cellsOk_is c false _ HN.out).mono ?_
    rintro e wx ⟨rfl, rfl⟩
    
    go_wp2
    go_ret
    exact ⟨ret_int HV.out.symm, Below.refl _ _⟩
  | true =>
    have HN := Lib.hid hn
    by_cases b0 : b < 0
    · have HV := Lib.hid (cutsV_no (c := c) (b := b) (s := s) (d := d) (by simp [cutsB, inB_no (n := b) (a := 0) (b := c) (.inl b0)]))
      clear hn
      go_enter Try.func40, Try.ntmps40
      go_wp2_with fail
      refine (cellsOk_is _ true _ HN.out).mono ?_
      rintro e wx ⟨rfl, rfl⟩
      
      go_wp2
      go_ret
      exact ⟨ret_int HV.out.symm, Below.refl _ _⟩
    · by_cases b1 : c < b
      · have HV := Lib.hid (cutsV_no (c := c) (b := b) (s := s) (d := d) (by simp [cutsB, inB_no (n := b) (a := 0) (b := c) (.inr b1)]))
        have b0' : 0 ≤ b := by omega
        clear hn
        go_enter Try.func40, Try.ntmps40
        go_wp2_with fail
        refine (cellsOk_is _ true _ HN.out).mono ?_
        rintro e wx ⟨rfl, rfl⟩
        
        go_wp2
        go_ret
        exact ⟨ret_int HV.out.symm, Below.refl _ _⟩
      · cases hc : colB s d with
        | false =>
          have HV := Lib.hid (cutsV_no (c := c) (b := b) (s := s) (d := d) (by simp [cutsB, tileB, hc]))
          have HC := Lib.hid hc
          have b0' : 0 ≤ b := by omega
          have b1' : b ≤ c := by omega
          clear hn hc
          go_enter Try.func40, Try.ntmps40
          go_wp2_with fail
          refine (cellsOk_is _ true _ HN.out).mono ?_
          rintro e wx ⟨rfl, rfl⟩
          
          go_wp2_with fail
          refine (implColours_eq s d false _ HC.out).mono ?_
          rintro e wx ⟨rfl, rfl⟩
          
          go_wp2
          go_ret
          exact ⟨ret_int HV.out.symm, Below.refl _ _⟩
        | true =>
          have ht2 : cutsB c b s d = true := by simp [cutsB, tileB, hc, hn, inB_mk (n := b) (a := 0) (b := c) (by omega) (by omega)]
          obtain ⟨n, m, x, y, rfl, rfl, rfl, rfl, n8, mn, x3, y3⟩ := cutsB_true ht2
          have hV := cutsV_is ht2
          have hA := countV_is (tileB_mk (c := m) (by omega) x3 y3)
          have hB := countV_is (tileB_mk (c := n - m) (by omega) x3 y3)
          have m1 := mul_wide (cntN_bd x (by omega) y (by omega) m (by omega)) (cntN_bd x (by omega) y (by omega) (n - m) (by omega))
          obtain ⟨p, hp⟩ : ∃ p, cntN x y m = p := ⟨_, rfl⟩
          obtain ⟨q, hq⟩ : ∃ q, cntN x y (n - m) = q := ⟨_, rfl⟩
          rw [hp] at hV hA m1
          rw [hq] at hV hB m1
          have HV := Lib.hid hV
          have HA := Lib.hid hA
          have HQ := Lib.hid hB
          have HC := Lib.hid hc
          have b0' : (0 : Int) ≤ (m : Int) := by omega
          have b1' : (m : Int) ≤ (n : Int) := by omega
          have U : IntKind.i64.wrap ((n : Int) - (m : Int)) = ((n - m : Nat) : Int) := by rw [IntKind.wrap_i64]; omega
          clear hn hc ht2 hV hA hB hp hq
          go_enter Try.func40, Try.ntmps40
          go_wp2_with fail
          refine (cellsOk_is _ true _ HN.out).mono ?_
          rintro e wx ⟨rfl, rfl⟩
          
          go_wp2_with fail
          refine (implColours_eq _ _ true _ HC.out).mono ?_
          rintro e wx ⟨rfl, rfl⟩
          
          go_wp2_with fail
          refine (implCount_eq m x y p _ HA.out).mono ?_
          rintro e w1 ⟨rfl, hh1⟩
          go_wp2_with fail
          refine (implCount_eq ((n - m : Nat) : Int) x y q _ HQ.out).mono ?_
          rintro e w2 ⟨rfl, hh2⟩
          go_wp2
          go_ret
          exact ⟨ret_int HV.out.symm, hh1.trans (hh2.mono hh1.size)⟩
set_option maxHeartbeats 1000000 in
theorem without_at (B n x y k p : Nat) (w : World) (hk : k ≤ n) (n8 : n ≤ 8) (x3 : x ≤ 3) (y3 : y ≤ 3) (hv : cntN x y (n - k) = p) (c0 : w.cell? ⟨B, 0, none⟩ = some (.int .i64 n)) (c1 : w.cell? ⟨B + 1, 0, none⟩ = some (.int .i64 x)) (c2 : w.cell? ⟨B + 1 + 1, 0, none⟩ = some (.int .i64 y)) :
    Calls Try.prog 57 #[.int .i64 k, .pointer (some ⟨B, 0, none⟩), .pointer (some ⟨B + 1, 0, none⟩), .pointer (some ⟨B + 1 + 1, 0, none⟩)] w fun e w' => e = .returned (.int .i64 p) ∧ Below w.heap.size w w' := by
  have HA := Lib.hid (show countV ((n - k : Nat) : Int) x y = p by rw [countV_is (tileB_mk (c := n - k) (by omega) x3 y3), hv])
  have U : IntKind.i64.wrap ((n : Int) - (k : Int)) = ((n - k : Nat) : Int) := by rw [IntKind.wrap_i64]; omega
  clear hv
  go_enter Try.func57, Try.ntmps57
  go_wp2_with fail
  refine (implCount_eq ((n - k : Nat) : Int) x y p _ HA.out).mono ?_
  rintro e w1 ⟨rfl, hh1⟩
  go_wp2
  go_ret
  exact ⟨rfl, hh1⟩
theorem region_named11 {P : Program} {Q : Exit → Act → World → Prop} {c : Code} {a : Act} {w : World} (h : ∀ W, W = w → c.wp P Q a W) : c.wp P Q a w := h w rfl
set_option maxRecDepth 100000 in
set_option maxHeartbeats 4000000 in
theorem implRings_any (c s d : Int) (w : World) : Calls Try.prog 31 #[.int .i64 c, .int .i64 s, .int .i64 d] w fun e w' => e = .returned (.int .i64 (ringV c s d)) ∧ Below w.heap.size w w' := by
  cases hn : inB c 0 8 with
  | false =>
    have HV := Lib.hid (ringV_no (c := c) (s := s) (d := d) (by
      rcases inB_false hn with h | h
      · simp [ringB, inB_no (n := c) (a := 2) (b := 8) (.inl (by omega))]
      · simp [ringB, inB_no (n := c) (a := 2) (b := 8) (.inr h)]))
    have HN := Lib.hid hn
    clear hn
    go_enter Try.func31, Try.ntmps31
    go_wp2_with fail
    refine (cellsOk_is c false _ HN.out).mono ?_
    rintro e wx ⟨rfl, rfl⟩
    
    go_wp2
    go_ret
    exact ⟨ret_int HV.out.symm, by (repeat (first | exact Below.refl _ _ | refine Below.setCell ?_ (by first | omega | (simp <;> omega)) _ | refine Below.alloc ?_ (by first | omega | (simp <;> omega)) _ | refine Below.drew ?_ | refine Below.trans ?_ (Below.mono (by assumption) (by first | omega | (simp <;> omega))) | refine Below.grown ?_ (by assumption) (by first | omega | (simp <;> omega)) (fun k e => by cases e; first | omega | (simp <;> omega))))⟩
  | true =>
    have HN := Lib.hid hn
    by_cases c2 : c < 2
    · have HV := Lib.hid (ringV_no (c := c) (s := s) (d := d) (by simp [ringB, inB_no (n := c) (a := 2) (b := 8) (.inl c2)]))
      clear hn
      go_enter Try.func31, Try.ntmps31
      go_wp2_with fail
      refine (cellsOk_is _ true _ HN.out).mono ?_
      rintro e wx ⟨rfl, rfl⟩
      
      go_wp2
      go_ret
      exact ⟨ret_int HV.out.symm, by (repeat (first | exact Below.refl _ _ | refine Below.setCell ?_ (by first | omega | (simp <;> omega)) _ | refine Below.alloc ?_ (by first | omega | (simp <;> omega)) _ | refine Below.drew ?_ | refine Below.trans ?_ (Below.mono (by assumption) (by first | omega | (simp <;> omega))) | refine Below.grown ?_ (by assumption) (by first | omega | (simp <;> omega)) (fun k e => by cases e; first | omega | (simp <;> omega))))⟩
    · have c2' : 2 ≤ c := by omega
      cases hc : colB s d with
      | false =>
        have HV := Lib.hid (ringV_no (c := c) (s := s) (d := d) (by simp [ringB, hc]))
        have HC := Lib.hid hc
        clear hn hc
        go_enter Try.func31, Try.ntmps31
        go_wp2_with fail
        refine (cellsOk_is _ true _ HN.out).mono ?_
        rintro e wx ⟨rfl, rfl⟩
        
        go_wp2_with fail
        refine (implColours_eq s d false _ HC.out).mono ?_
        rintro e wx ⟨rfl, rfl⟩
        
        go_wp2
        go_ret
        exact ⟨ret_int HV.out.symm, by (repeat (first | exact Below.refl _ _ | refine Below.setCell ?_ (by first | omega | (simp <;> omega)) _ | refine Below.alloc ?_ (by first | omega | (simp <;> omega)) _ | refine Below.drew ?_ | refine Below.trans ?_ (Below.mono (by assumption) (by first | omega | (simp <;> omega))) | refine Below.grown ?_ (by assumption) (by first | omega | (simp <;> omega)) (fun k e => by cases e; first | omega | (simp <;> omega))))⟩
      | true =>
        have ht : ringB c s d = true := by simp [ringB, hc, inB_mk (n := c) (a := 2) (b := 8) (by omega) (inB_true hn).2]
        obtain ⟨n, x, y, rfl, rfl, rfl, n2, n8, x3, y3⟩ := ringB_true ht
        have hV := ringV_is ht
        have bA := cntN_bd x (by omega) y (by omega) n (by omega)
        have bB := cntN_bd x (by omega) y (by omega) (n - 2) (by omega)
        obtain ⟨p, hp⟩ : ∃ p, cntN x y n = p := ⟨_, rfl⟩
        obtain ⟨q, hq⟩ : ∃ q, cntN x y (n - 2) = q := ⟨_, rfl⟩
        rw [hp] at hV bA
        rw [hq] at hV bB
        have m1 := mul_low y3 bB
        have HV := Lib.hid hV
        have HP := Lib.hid (show cntN x y (n - 0) = p from hp)
        have HQ := Lib.hid hq
        have HC := Lib.hid hc
        have n2' : (2 : Int) ≤ (n : Int) := by omega
        have U1 : IntKind.i64.wrap ((y : Int) * (q : Int)) = (y : Int) * (q : Int) := by rw [IntKind.wrap_i64]; omega
        have U2 : IntKind.i64.wrap ((p : Int) + (y : Int) * (q : Int)) = (p : Int) + (y : Int) * (q : Int) := by rw [IntKind.wrap_i64]; omega
        have hmf : ∀ (fn : Fn) (first cap : Array Value) (w : World), (Instr.makeFunc fn first cap).run Try.prog w = .ok (.func fn first cap) w := fun _ _ _ _ => rfl
        clear hn hc ht hV hp hq c2 c2'
        go_enter Try.func31, Try.ntmps31
        go_wp2_with fail
        refine (cellsOk_is _ true _ HN.out).mono ?_
        rintro e wx ⟨rfl, rfl⟩
        
        go_wp2_with fail
        refine (implColours_eq _ _ true _ HC.out).mono ?_
        rintro e wx ⟨rfl, rfl⟩
        
        go_wp2_with fail
        refine region_named11 ?_
        intro W hW
        have c0 : W.cell? ⟨w.heap.size, 0, none⟩ = some (.int .i64 n) := by rw [hW]; go_simp
        have c1 : W.cell? ⟨w.heap.size + 1, 0, none⟩ = some (.int .i64 x) := by rw [hW]; go_simp
        have c2 : W.cell? ⟨w.heap.size + 1 + 1, 0, none⟩ = some (.int .i64 y) := by rw [hW]; go_simp
        have HBW : Below w.heap.size w W := by
          rw [hW]
          (repeat (first | exact Below.refl _ _ | refine Below.setCell ?_ (by first | omega | (simp <;> omega)) _ | refine Below.alloc ?_ (by first | omega | (simp <;> omega)) _ | refine Below.drew ?_ | refine Below.trans ?_ (Below.mono (by assumption) (by first | omega | (simp <;> omega))) | refine Below.grown ?_ (by assumption) (by first | omega | (simp <;> omega)) (fun k e => by cases e; first | omega | (simp <;> omega))))
        clear hW
        obtain ⟨S, hSd⟩ : ∃ S : World → Prop, (fun V => Below W.heap.size W V) = S := ⟨_, rfl⟩
        have hkeep : ∀ V V' : World, S V → Below V.heap.size V V' → S V' := by rw [← hSd]; exact fun V V' h hb => h.trans (hb.mono h.size)
        have gk0 : ∀ iq : KeptBy S, iq.world.cell? ⟨w.heap.size, 0, none⟩ = some (.int .i64 n) := by rw [← hSd]; exact fun iq => cell_below iq.ok c0
        have gk1 : ∀ iq : KeptBy S, iq.world.cell? ⟨w.heap.size + 1, 0, none⟩ = some (.int .i64 x) := by rw [← hSd]; exact fun iq => cell_below iq.ok c1
        have gk2 : ∀ iq : KeptBy S, iq.world.cell? ⟨w.heap.size + 1 + 1, 0, none⟩ = some (.int .i64 y) := by rw [← hSd]; exact fun iq => cell_below iq.ok c2
        have gkn : Nonempty (KeptBy S) := ⟨⟨W.drew, by rw [← hSd]; exact (Below.refl _ _).drew⟩⟩
        refine wp_region_kept (S := S) (by rw [← hSd]; exact (Below.refl _ _).drew) (by kernel_rfl) (by kernel_rfl) ?_
        repeat (go_big_quiet_step ((first | (go_at_call 57; refine (without_at _ n x y 0 p _ (Nat.zero_le _) n8 x3 y3 HP.out (gk0 _) (gk1 _) (gk2 _)).mono ?_; rintro e w' ⟨rfl, hhw⟩; exact ⟨rfl, ⟨w', hkeep _ _ (KeptBy.ok _) hhw⟩, rfl⟩) | (go_at_call 57; refine (without_at _ n x y 2 q _ n2 n8 x3 y3 HQ.out (gk0 _) (gk1 _) (gk2 _)).mono ?_; rintro e w' ⟨rfl, hhw⟩; exact ⟨rfl, ⟨w', hkeep _ _ (KeptBy.ok _) hhw⟩, rfl⟩) | fail)))
        refine wpQuiet_nil ?_
        rintro wz ⟨iz, hwz⟩
        have bwz : Below W.heap.size W wz := by
          have this : S wz := by rw [hwz]; exact iz.ok
          rw [← hSd] at this
          exact this
        clear hwz iz gkn hkeep hSd gk0 gk1 gk2
        go_wp2
        go_ret
        exact ⟨ret_int HV.out.symm, HBW.trans (bwz.mono HBW.size)⟩
theorem byteString_runs (s : ByteArray) (x : UInt8) (w : World) : (callFunc 69 #[.string s, .int .u8 (x.toNat : Int)]).run Try.prog w = .ok (.value (.int .i64 (Lib.indexByte s.data.toList x))) w := by
  have hx : ((x.toNat : Int).toNat.toUInt8) = x := by rw [Int.toNat_natCast]; exact UInt8.ofNat_toNat
  have h := Lib.run_indexByteString (P := Try.prog) s (x.toNat : Int) w
  rw [hx] at h
  rw [run_callFunc_extern Try.func69 (by kernel_rfl) (by kernel_rfl) (by kernel_rfl) (e := Extern.BytealgIndexByte.indexByte) (by kernel_rfl)]
  simp [h]
set_option maxHeartbeats 400000 in
theorem liteIndex_at (s : ByteArray) (x : UInt8) (w : World) : Calls Try.prog 67 #[.string s, .int .u8 (x.toNat : Int)] w fun e w' => e = .returned (.int .i64 (Lib.indexByte s.data.toList x)) ∧ w = w' := by
  have hb := fun w => byteString_runs s x w
  go_enter Try.func67, Try.ntmps67
  go_wp2
  go_ret
  exact ⟨rfl, rfl⟩
set_option maxHeartbeats 400000 in
theorem index_at (s : ByteArray) (x : UInt8) (w : World) : Calls Try.prog 63 #[.string s, .int .u8 (x.toNat : Int)] w fun e w' => e = .returned (.int .i64 (Lib.indexByte s.data.toList x)) ∧ w = w' := by
  go_enter Try.func63, Try.ntmps63
  go_wp2_with fail
  refine (liteIndex_at s x _).mono ?_
  rintro e wx ⟨rfl, rfl⟩
  go_wp2
  go_ret
  exact ⟨rfl, rfl⟩
theorem index_is (s : ByteArray) (x : UInt8) (v : Int) (w : World) (h : Lib.indexByte s.data.toList x = v) : Calls Try.prog 63 #[.string s, .int .u8 (x.toNat : Int)] w fun e w' => e = .returned (.int .i64 v) ∧ w = w' := by rw [← h]; exact index_at s x w
theorem index_low (x : UInt8) : decide (0 ≤ Lib.indexByte [97, 98, 99] x) = isLow x := by
  have h : ∀ n, n < 256 → decide (0 ≤ Lib.indexByte [97, 98, 99] (UInt8.ofNat n)) = isLow (UInt8.ofNat n) := by decide +kernel
  have := h x.toNat x.toNat_lt
  rwa [UInt8.ofNat_toNat] at this
theorem index_up (x : UInt8) : decide (0 ≤ Lib.indexByte [65, 66, 67] x) = isUp x := by
  have h : ∀ n, n < 256 → decide (0 ≤ Lib.indexByte [65, 66, 67] (UInt8.ofNat n)) = isUp (UInt8.ofNat n) := by decide +kernel
  have := h x.toNat x.toNat_lt
  rwa [UInt8.ofNat_toNat] at this
/-- How many cells a letter lays; none where it is none. -/
def underV (x : UInt8) : Nat := if isLow x = true then 1 else if isUp x = true then 2 else 0
set_option maxHeartbeats 1000000 in
theorem under_at (x : UInt8) (v : Nat) (w : World) (hv : underV x = v) : Calls Try.prog 53 #[.int .u8 (x.toNat : Int)] w fun e w' => e = .returned (.int .i64 v) ∧ w = w' := by
  have h1 := index_low x
  have h2 := index_up x
  obtain ⟨i, hi⟩ : ∃ i, Lib.indexByte [97, 98, 99] x = i := ⟨_, rfl⟩
  obtain ⟨j, hj⟩ : ∃ j, Lib.indexByte [65, 66, 67] x = j := ⟨_, rfl⟩
  rw [hi] at h1
  rw [hj] at h2
  have HI := Lib.hid hi
  have HJ := Lib.hid hj
  clear hi hj
  cases hl : isLow x with
  | true =>
    rw [hl, decide_eq_true_iff] at h1
    obtain rfl : v = 1 := by rw [← hv, underV, if_pos hl]
    clear h2 hl hv
    go_enter Try.func53, Try.ntmps53
    go_wp2_with fail
    refine (index_is _ x i _ HI.out).mono ?_
    rintro e wx ⟨rfl, rfl⟩
    go_wp2
    go_ret
    exact ⟨rfl, rfl⟩
  | false =>
    rw [hl, decide_eq_false_iff_not] at h1
    have h1' : i < 0 := by omega
    cases hu : isUp x with
    | true =>
      rw [hu, decide_eq_true_iff] at h2
      obtain rfl : v = 2 := by rw [← hv, underV, hl, if_neg (by simp), if_pos hu]
      clear hl hu hv h1
      go_enter Try.func53, Try.ntmps53
      go_wp2_with fail
      refine (index_is _ x i _ HI.out).mono ?_
      rintro e wx ⟨rfl, rfl⟩
      go_wp2_with fail
      refine (index_is _ x j _ HJ.out).mono ?_
      rintro e wx ⟨rfl, rfl⟩
      go_wp2
      go_ret
      exact ⟨rfl, rfl⟩
    | false =>
      rw [hu, decide_eq_false_iff_not] at h2
      have h2' : j < 0 := by omega
      obtain rfl : v = 0 := by rw [← hv, underV, hl, if_neg (by simp), hu, if_neg (by simp)]
      clear hl hu hv h1 h2
      go_enter Try.func53, Try.ntmps53
      go_wp2_with fail
      refine (index_is _ x i _ HI.out).mono ?_
      rintro e wx ⟨rfl, rfl⟩
      go_wp2_with fail
      refine (index_is _ x j _ HJ.out).mono ?_
      rintro e wx ⟨rfl, rfl⟩
      go_wp2
      go_ret
      exact ⟨rfl, rfl⟩
theorem cells_start (s : ByteArray) : cellsL ((bytesL s).take s.size) = cellsL (bytesL s) := by rw [List.take_of_length_le (by rw [bytesL_len]; omega)]
theorem good_start (s : ByteArray) : goodL ((bytesL s).take s.size) = goodL (bytesL s) := by rw [List.take_of_length_le (by rw [bytesL_len]; omega)]
set_option maxHeartbeats 4000000 in
theorem implCells_at (s : ByteArray) (w : World) : Calls Try.prog 25 #[.string s] w fun e w' => e = .returned (.int .i64 (cellsV s)) ∧ w = w' := by
  by_cases hs : 8 < s.size
  · have hsi : (8 : Int) < (s.size : Int) := by omega
    have HV := Lib.hid (cellsV_no (s := s) (by rw [cellsB, Bool.and_eq_false_iff]; right; simp; omega))
    go_enter Try.func25, Try.ntmps25
    go_wp2
    go_ret
    exact ⟨ret_int HV.out.symm, rfl⟩
  · have hsi : (s.size : Int) ≤ 8 := by omega
    have s0 : (0 : Int) ≤ (s.size : Int) := by omega
    go_enter Try.func25, Try.ntmps25
    go_wp2_with fail
    go_loop [3, 11] (fun x y => ∃ k : Nat, k ≤ s.size ∧ y = .int .i64 k ∧ x = .int .i64 ((cellsL ((bytesL s).take k) : Nat) : Int) ∧ goodL ((bytesL s).take k) = true) (fun _ y => 20 - (intOf y).toNat)
    case atStart => exact ⟨0, by omega, rfl, rfl, rfl⟩
    case round =>
      obtain ⟨k, hk, rfl, rfl, hg⟩ := hrel
      by_cases hlt : k < s.size
      · have hki : (k : Int) < (s.size : Int) := by omega
        have k0 : (0 : Int) ≤ (k : Int) := by omega
        have hnx := cellsL_next hlt
        have hgn := goodL_next hlt hg
        have hbad := goodL_bad hlt
        have hbd := cellsL_bd ((bytesL s).take k)
        have hbl : ((bytesL s).take k).length ≤ k := by rw [List.length_take]; omega
        obtain ⟨u, hu⟩ : ∃ u, cellsL ((bytesL s).take k) = u := ⟨_, rfl⟩
        rw [hu] at hnx hbd ⊢
        have hul := low_not_up (s[k]'hlt)
        cases hl : isLow (s[k]'hlt) with
        | true =>
          rw [hul hl, if_neg (by simp)] at hnx
          have HN := Lib.hid hnx
          have HG := Lib.hid (hgn (by rw [hl]; simp))
          have HU := Lib.hid (show underV (s[k]'hlt) = 1 by rw [underV, if_pos hl])
          clear hnx hgn hbad hul hl hg hu
          go_wp2_with fail
          refine (under_at (s[k]'hlt) 1 _ HU.out).mono ?_
          rintro e wx ⟨rfl, rfl⟩
          go_wp2
          go_round
          case rel => exact ⟨k + 1, by omega, congrArg (Value.int .i64) (by omega), congrArg (Value.int .i64) (by rw [HN.out]; omega), HG.out⟩
          case measure => simp [intOf]; omega
        | false =>
          cases hp : isUp (s[k]'hlt) with
          | true =>
            rw [hp, if_pos rfl] at hnx
            have HN := Lib.hid hnx
            have HG := Lib.hid (hgn (by rw [hp]; simp))
            have HU := Lib.hid (show underV (s[k]'hlt) = 2 by rw [underV, hl, if_neg (by simp), if_pos hp])
            clear hnx hgn hbad hul hl hg hu hp
            go_wp2_with fail
            refine (under_at (s[k]'hlt) 2 _ HU.out).mono ?_
            rintro e wx ⟨rfl, rfl⟩
            go_wp2
            go_round
            case rel => exact ⟨k + 1, by omega, congrArg (Value.int .i64) (by omega), congrArg (Value.int .i64) (by rw [HN.out]; omega), HG.out⟩
            case measure => simp [intOf]; omega
          | false =>
            have HV := Lib.hid (cellsV_no (hbad (by rw [hl, hp]; rfl)))
            have HU := Lib.hid (show underV (s[k]'hlt) = 0 by rw [underV, hl, if_neg (by simp), hp, if_neg (by simp)])
            clear hnx hgn hbad hul hl hg hu hp
            go_wp2_with fail
            refine (under_at (s[k]'hlt) 0 _ HU.out).mono ?_
            rintro e wx ⟨rfl, rfl⟩
            go_wp2
            go_ret
            exact ⟨ret_int HV.out.symm, rfl⟩
      · obtain rfl : k = s.size := by omega
        have HV := Lib.hid (show cellsV s = (cellsL ((bytesL s).take s.size) : Int) by
          rw [cells_start]
          rw [good_start] at hg
          exact cellsV_is (by rw [cellsB, hg]; simp; omega))
        clear hg
        go_wp2
        go_ret
        exact ⟨ret_int HV.out.symm, rfl⟩
theorem implCells_eq (s : ByteArray) (v : Int) (w : World) (h : cellsV s = v) : Calls Try.prog 25 #[.string s] w fun e w' => e = .returned (.int .i64 v) ∧ w = w' := by rw [← h]; exact implCells_at s w
theorem implCells_any (s : ByteArray) (w : World) (_hs : s.size ≤ 1048600) : Calls Try.prog 25 #[.string s] w fun e w' => e = .returned (.int .i64 (cellsV s)) ∧ Below w.heap.size w w' := (implCells_at s w).mono fun e w' h => ⟨h.1, by rw [← h.2]; exact Below.refl _ _⟩
theorem letter_good {s : ByteArray} {k : Nat} (h : k < s.size) (hg : cellsB s = true) : (isUp (s[k]'h) || isLow (s[k]'h)) = true := by
  cases hx : isUp (s[k]'h) || isLow (s[k]'h) with
  | true => rfl
  | false => rw [goodL_bad h hx] at hg; cases hg
set_option maxHeartbeats 4000000 in
theorem implCut_at (s : ByteArray) (c : Int) (w : World) : Calls Try.prog 37 #[.string s, .int .i64 c] w fun e w' => e = .returned (.bool (cutB s c)) ∧ w = w' := by
  by_cases hc : c < 0
  · have HV := Lib.hid (show cutB s c = false by rw [cutB, inB_no (n := c) (a := 0) (b := cellsV s) (.inl hc)]; rfl)
    go_enter Try.func37, Try.ntmps37
    go_wp2
    go_ret
    exact ⟨ret_bool HV.out.symm, rfl⟩
  · have hc0 : 0 ≤ c := by omega
    by_cases hc1 : cellsV s < c
    · have HV := Lib.hid (show cutB s c = false by rw [cutB, inB_no (n := c) (a := 0) (b := cellsV s) (.inr hc1)]; rfl)
      obtain ⟨v, hv⟩ : ∃ v, cellsV s = v := ⟨_, rfl⟩
      rw [hv] at hc1
      have HC := Lib.hid hv
      clear hv
      go_enter Try.func37, Try.ntmps37
      go_wp2_with fail
      refine (implCells_eq s v _ HC.out).mono ?_
      rintro e wx ⟨rfl, rfl⟩
      go_wp2
      go_ret
      exact ⟨ret_bool HV.out.symm, rfl⟩
    · have hB : cellsB s = true := by
        cases h : cellsB s with
        | true => rfl
        | false => rw [cellsV_no h] at hc1; omega
      obtain ⟨m, rfl⟩ := Int.eq_ofNat_of_zero_le hc0
      have hV := cellsV_is hB
      obtain ⟨v, hv⟩ : ∃ v, cellsL (bytesL s) = v := ⟨_, rfl⟩
      rw [hv] at hV
      rw [hV] at hc1
      have hmv : m ≤ v := by omega
      have hmvi : (m : Int) ≤ (v : Int) := by omega
      have HC := Lib.hid hV
      have h16 := cellsV_bd s
      rw [hV] at h16
      have hd1 : decide ((m : Int) < 0) = false := by simp
      have hd2 : decide (v < m) = false := by simp; omega
      have HT := Lib.hid (show cutB s m = cutL (bytesL s) m by rw [cutB, hV, inB_mk (by omega) (by omega)]; simp)
      have HE := Lib.hid hv
      have HB := Lib.hid hB
      clear hV hv hB hc hc1
      go_enter Try.func37, Try.ntmps37
      go_wp2_with fail
      refine (implCells_eq s v _ HC.out).mono ?_
      rintro e wx ⟨rfl, rfl⟩
      go_wp2_with fail
      go_loop [5, 6] (fun x y => ∃ k n : Nat, k ≤ s.size ∧ y = .int .i64 k ∧ x = .int .i64 n ∧ n = cellsL ((bytesL s).take k) ∧ ((n ≤ m ∧ cutL ((bytesL s).drop k) (m - n) = cutL (bytesL s) m) ∨ (n = m + 1 ∧ cutL (bytesL s) m = false))) (fun _ y => 1000000 - (intOf y).toNat)
      case atStart => exact ⟨0, 0, by omega, rfl, rfl, rfl, .inl ⟨by omega, rfl⟩⟩
      case round =>
        obtain ⟨k, n, hk, rfl, rfl, hn, hrel⟩ := hrel
        by_cases hnm : n < m
        · have hlt : k < s.size := by
            rcases Nat.lt_or_ge k s.size with h | h
            · exact h
            · obtain rfl : k = s.size := by omega
              rw [cells_start, HE.out] at hn
              omega
          have hs8 : s.size ≤ 8 := by have := HB.out; simp only [cellsB, Bool.and_eq_true, decide_eq_true_iff] at this; exact this.2
          have hki : (k : Int) < (s.size : Int) := by omega
          have k0 : (0 : Int) ≤ (k : Int) := by omega
          have hni : (n : Int) < (m : Int) := by omega
          have hcu : cutL ((bytesL s).drop k) (m - n) = cutL (bytesL s) m := by
            rcases hrel with h | h
            · exact h.2
            · omega
          rw [drop_at hlt] at hcu
          have hnx := cellsL_next hlt
          have hgd := letter_good hlt HB.out
          have hul := low_not_up (s[k]'hlt)
          cases hx : isUp (s[k]'hlt) with
          | true =>
            have hlow : isLow (s[k]'hlt) = false := by
              cases h : isLow (s[k]'hlt) with
              | false => rfl
              | true => rw [hul h] at hx; cases hx
            rw [hx, if_pos rfl] at hnx
            have HU := Lib.hid (show underV (s[k]'hlt) = 2 by rw [underV, hlow, if_neg (by simp), if_pos hx])
            have HX := Lib.hid (show n + 2 = cellsL ((bytesL s).take (k + 1)) by rw [hnx, hn])
            have HR := Lib.hid (show (n + 2 ≤ m ∧ cutL ((bytesL s).drop (k + 1)) (m - (n + 2)) = cutL (bytesL s) m) ∨ (n + 2 = m + 1 ∧ cutL (bytesL s) m = false) by
              by_cases h2 : n + 2 ≤ m
              · left
                rw [show m - n = m - (n + 2) + 2 by omega, cutL_up2 hx] at hcu
                exact ⟨h2, hcu⟩
              · right
                rw [show m - n = 1 by omega, cutL_up1 hx] at hcu
                exact ⟨by omega, hcu.symm⟩)
            clear hx hcu hrel hnx hgd hul hlow hn
            go_wp2_with fail
            refine (under_at (s[k]'hlt) 2 _ HU.out).mono ?_
            rintro e wx ⟨rfl, rfl⟩
            go_wp2
            go_round
            case rel => exact ⟨k + 1, n + 2, by omega, congrArg (Value.int .i64) (by omega), congrArg (Value.int .i64) (by omega), HX.out, HR.out⟩
            case measure => simp [intOf]; omega
          | false =>
            have hlow : isLow (s[k]'hlt) = true := by rw [hx] at hgd; simpa using hgd
            rw [hx, if_neg (by simp)] at hnx
            have HU := Lib.hid (show underV (s[k]'hlt) = 1 by rw [underV, if_pos hlow])
            have HX := Lib.hid (show n + 1 = cellsL ((bytesL s).take (k + 1)) by rw [hnx, hn])
            have HR := Lib.hid (show (n + 1 ≤ m ∧ cutL ((bytesL s).drop (k + 1)) (m - (n + 1)) = cutL (bytesL s) m) ∨ (n + 1 = m + 1 ∧ cutL (bytesL s) m = false) by
              left
              rw [show m - n = m - (n + 1) + 1 by omega, cutL_low hx] at hcu
              exact ⟨by omega, hcu⟩)
            clear hx hcu hrel hnx hgd hul hlow hn
            go_wp2_with fail
            refine (under_at (s[k]'hlt) 1 _ HU.out).mono ?_
            rintro e wx ⟨rfl, rfl⟩
            go_wp2
            go_round
            case rel => exact ⟨k + 1, n + 1, by omega, congrArg (Value.int .i64) (by omega), congrArg (Value.int .i64) (by omega), HX.out, HR.out⟩
            case measure => simp [intOf]; omega
        · rcases hrel with ⟨h1, h2⟩ | ⟨h1, h2⟩
          · obtain rfl : n = m := by omega
            have HV := Lib.hid (show cutB s n = true by rw [HT.out, ← h2, Nat.sub_self, cutL_zero])
            clear h2 hn hnm
            go_wp2
            go_ret
            exact ⟨ret_bool HV.out.symm, rfl⟩
          · have hmn : (m : Int) < (n : Int) := by omega
            have hne : ((n : Int) == (m : Int)) = false := by simp; omega
            have HV := Lib.hid (show cutB s m = false by rw [HT.out, h2])
            clear h1 h2 hn hnm
            go_wp2
            go_ret
            exact ⟨ret_bool HV.out.symm, rfl⟩
theorem implCut_any (s : ByteArray) (c : Int) (w : World) (_hs : s.size ≤ 1048600) : Calls Try.prog 37 #[.string s, .int .i64 c] w fun e w' => e = .returned (.bool (cutB s c)) ∧ Below w.heap.size w w' := (implCut_at s c w).mono fun e w' h => ⟨h.1, by rw [← h.2]; exact Below.refl _ _⟩
end Go.Proofs.Ytlmlcbhllodncaa
