/- Contracts and laws that the statement's proof stands on, one text behind the other. -/
import Derived.Test.YtblphilcmfabkaaGreatDoorAla0b
import Derived.Defers
import Derived.Laws.Pointers
import Derived.Laws.LoneSync
import Derived.Laws.NewBlocks
import Derived.RegionTactic
import Derived.RegionCalls
import Derived.Lib.Split
import Derived.Deep.Cut
import Derived.Deep.DeepCutAuto
import Derived.Deep.RegionHeld3
import Derived.Deep.RegionWith

namespace Go.Proofs.YtblphilcmfabkaaGreatDoor
section
open Go.RowKit
theorem decN_small {n f : Nat} (h : n < 10) : decN (f + 1) n = [UInt8.ofNat (48 + n)] := by rw [decN, if_pos h]
theorem decN_big {n f : Nat} (h : ¬ n < 10) : decN (f + 1) n = decN f (n / 10) ++ [UInt8.ofNat (48 + n % 10)] := by rw [decN, if_neg h]
theorem decN_len : ∀ (f n : Nat), (decN f n).length ≤ f
 | 0, n => by simp [decN]
 | f + 1, n => by
   have := decN_len f (n / 10)
   unfold decN
   split
   · simp
   · rw [List.length_append]; simp; omega
theorem run_digit_at (w : World) (b d : Nat) (hd : d < 10) (h : w.cell? ⟨b, 0, none⟩ = some (.int .u8 (48 + (d : Int)))) : (convert 22 9 (.slice (some ⟨b, 0, none⟩) 1 1)).run Tryz.prog w = .ok (.string (digS d)) w := by
 have h' := run_convert_bytes_back (P := Tryz.prog) w 22 9 5 ⟨b, 0, none⟩ 1 [UInt8.ofNat (48 + d)] Tryz.underlying22 Tryz.underlying5 Tryz.underlying9 ?_
 · exact h'
 · intro j hj
   obtain rfl : j = 0 := by simpa using hj
   have e : ((UInt8.ofNat (48 + d)).toNat : Int) = 48 + (d : Int) := by
     rw [UInt8.toNat_ofNat_of_lt' (by show 48 + d < 256; omega)]; omega
   have e2 : (⟨b, 0, none⟩ : Addr).add 0 = ⟨b, 0, none⟩ := by unfold Addr.add; split <;> simp_all
   rw [e2, h, ← e]
   rfl
set_option maxHeartbeats 1000000 in
theorem number_digit (n : Nat) (w : World) (h : n < 10) : Calls Tryz.prog 64 #[.int .i64 n] w fun e w' => e = .returned (.string (digS n)) ∧ Below w.heap.size w w' := by
 have h0 : ¬ ((n : Int) < 0) := by omega
 have h1 : (n : Int) < 10 := by omega
 have hw8 : IntKind.u8.wrap (48 + (n : Int)) = 48 + (n : Int) := IntWalk.u8_in _ ⟨by omega, by omega⟩
 have hw6 : IntKind.i64.wrap (48 + (n : Int)) = 48 + (n : Int) := by rw [IntKind.wrap_i64]; omega
 have hcv := run_digit w n h
 go_enter Tryz.func64, Tryz.ntmps64
 go_wp2
 go_ret
 exact ⟨rfl, by exact zb⟩
def numP (n m d : Nat) (q : ByteArray) (j : Nat) (v : Value) (w : World) : Prop :=
 match j with
 | 0 => v = .int .i64 n
 | 1 => v = .int .i64 (m : Int)
 | 2 => v = .string q
 | 3 => v = .int .i64 n
 | 4 => v = .int .i64 (d : Int)
 | 5 => v = .int .i64 (48 + (d : Int))
 | 6 => v = .int .u8 (48 + (d : Int))
 | 7 => ∃ b, v = .slice (some ⟨b, 0, none⟩) 1 1 ∧ b < w.heap.size ∧ w.cell? ⟨b, 0, none⟩ = some (.int .u8 (48 + (d : Int)))
 | 8 => v = .string (digS d)
 | _ => v = .string (q ++ digS d)
theorem numP_mono (n m d : Nat) (q : ByteArray) (j : Nat) (v : Value) (w w' : World) (hg : Below w.heap.size w w') (h : numP n m d q j v w) : numP n m d q j v w' := by
 unfold numP at *
 split at h
 · exact h
 · exact h
 · exact h
 · exact h
 · exact h
 · exact h
 · exact h
 · obtain ⟨b, e, h1, h2⟩ := h
   exact ⟨b, e, Nat.lt_of_lt_of_le h1 hg.size, (hg.cell (p := ⟨b, 0, none⟩) h1).trans h2⟩
 · exact h
 · exact h
set_option linter.unusedSimpArgs false in
set_option maxRecDepth 100000 in
set_option maxHeartbeats 4000000 in
theorem number_more (n m d : Nat) (q : ByteArray) (w : World) (h10 : 10 ≤ n) (hn : n ≤ 9223372036854775807) (hm : n / 10 = m) (hd : n % 10 = d) (hq : q.size ≤ 1000)
   (IH : ∀ w, Calls Tryz.prog 64 #[.int .i64 (m : Int)] w fun e w' => e = .returned (.string q) ∧ Below w.heap.size w w') :
   Calls Tryz.prog 64 #[.int .i64 n] w fun e w' => e = .returned (.string (q ++ digS d)) ∧ Below w.heap.size w w' := by
 have h0 : ¬ ((n : Int) < 0) := by omega
 have h1 : ¬ ((n : Int) < 10) := by omega
 have hen : ∀ (args : Array Value) (w : World), (callFunc 64 args).run Tryz.prog w = .ok (.enter 64 args) w := enters_of Tryz.func64 (by kernel_rfl) rfl
 have hd9 : d < 10 := by omega
 have q1 : Int.tdiv (n : Int) 10 = (m : Int) := by rw [Int.tdiv_eq_ediv_of_nonneg zO]; omega
 have q3 : (n : Int) / 10 = (m : Int) := by omega
 have q2 : IntKind.i64.wrap (m : Int) = (m : Int) := by rw [IntKind.wrap_i64]; omega
 have r1 : Int.tmod (n : Int) 10 = (d : Int) := by rw [Int.tmod_eq_emod_of_nonneg zO]; omega
 have r3 : (n : Int) % 10 = (d : Int) := by omega
 have r2 : IntKind.i64.wrap (d : Int) = (d : Int) := by rw [IntKind.wrap_i64]; omega
 have a2 : IntKind.i64.wrap (48 + (d : Int)) = 48 + (d : Int) := by rw [IntKind.wrap_i64]; omega
 have hw8 : IntKind.u8.wrap (48 + (d : Int)) = 48 + (d : Int) := IntWalk.u8_in _ ⟨by omega, by omega⟩
 have hds : (digS d).size = 1 := rfl
 have hcat : ¬ 9223372036854775807 < q.size + 1 := by omega
 clear hm hd
 have HIH := Lib.hid IH
 have HEN := Lib.hid hen
 clear IH hen
 go_enter Tryz.func64, Tryz.ntmps64
 go_wp2_with fail
 rename_i K hK
 have hen := HEN.out
 refine wp_region_stores (PP := numP n m d q) (Grow := fun a b => Below a.heap.size a b) (G := fun _ w' => Below w.heap.size w w') (by kernel_rfl) (dis_of2 (by kernel_rfl)) (b_of (by kernel_rfl)) (back_of (by kernel_rfl)) (fun j u w1 w2 hg hp => numP_mono n m d q j u w1 w2 hg hp) (Below.drew (Below.refl _ _)) ?step ?fin
 case step =>
   intro i o hi listed a w1 hS hG hall hl
   have hi11 : i < 11 := (Array.getElem?_eq_some_iff.1 hi).1
   rcases (show i = 0 ∨ i = 1 ∨ i = 2 ∨ i = 3 ∨ i = 4 ∨ i = 5 ∨ i = 6 ∨ i = 7 ∨ i = 8 ∨ i = 9 ∨ i = 10 by omega) with rfl | rfl | rfl | rfl | rfl | rfl | rfl | rfl | rfl | rfl | rfl
   · obtain rfl := Option.some.inj hi
     have e0 : a.eval (.tmp 0) = .int .i64 n := hS.2.2.1 0 (noDst_of (by kernel_rfl))
     refine op_value (v := .int .i64 n) (w' := w1) rfl rfl (by intro ev ht hc hf; rw [← ht] at e0; simp [execOp, hc, hf, e0, go_sem]) ⟨.inl ⟨_, 24, rfl, rfl, rfl⟩, Below.refl _ _, hG⟩
   · obtain rfl := Option.some.inj hi
     have P0 := hS.2.2.2 0 _ 24 rfl rfl (hall { on := 0, ground := .data } (by simp) rfl)
     replace P0 : a.eval (.tmp 24) = .int .i64 n := P0
     refine op_value (v := .int .i64 (m : Int)) (w' := w1) rfl rfl (by intro ev ht hc hf; rw [← ht] at P0; simp [execOp, hc, hf, P0, q1, q2, q3, go_sem]) ⟨.inl ⟨_, 25, rfl, rfl, rfl⟩, Below.refl _ _, hG⟩
   · obtain rfl := Option.some.inj hi
     have P1 := hS.2.2.2 1 _ 25 rfl rfl (hall { on := 1, ground := .data } (by simp) rfl)
     replace P1 : a.eval (.tmp 25) = .int .i64 (m : Int) := P1
     refine op_enter rfl rfl (f := 64) (args := #[.int .i64 (m : Int)]) (w' := w1) (by intro ev ht hc hf; rw [← ht] at P1; simp [execOp, hc, hf, P1, go_sem, hen]) ?_
     refine (HIH.out w1).mono ?_
     rintro e w2 ⟨rfl, hb⟩
     exact ⟨_, rfl, .inl ⟨_, 26, rfl, rfl, rfl⟩, hb, hG.trans (hb.mono hG.size)⟩
   · obtain rfl := Option.some.inj hi
     have e0 : a.eval (.tmp 0) = .int .i64 n := hS.2.2.1 0 (noDst_of (by kernel_rfl))
     refine op_value (v := .int .i64 n) (w' := w1) rfl rfl (by intro ev ht hc hf; rw [← ht] at e0; simp [execOp, hc, hf, e0, go_sem]) ⟨.inl ⟨_, 27, rfl, rfl, rfl⟩, Below.refl _ _, hG⟩
   · obtain rfl := Option.some.inj hi
     have P3 := hS.2.2.2 3 _ 27 rfl rfl (hall { on := 3, ground := .data } (by simp) rfl)
     replace P3 : a.eval (.tmp 27) = .int .i64 n := P3
     refine op_value (v := .int .i64 (d : Int)) (w' := w1) rfl rfl (by intro ev ht hc hf; rw [← ht] at P3; simp [execOp, hc, hf, P3, r1, r2, r3, go_sem]) ⟨.inl ⟨_, 28, rfl, rfl, rfl⟩, Below.refl _ _, hG⟩
   · obtain rfl := Option.some.inj hi
     have P4 := hS.2.2.2 4 _ 28 rfl rfl (hall { on := 4, ground := .data } (by simp) rfl)
     replace P4 : a.eval (.tmp 28) = .int .i64 (d : Int) := P4
     refine op_value (v := .int .i64 (48 + (d : Int))) (w' := w1) rfl rfl (by intro ev ht hc hf; rw [← ht] at P4; simp [execOp, hc, hf, P4, a2, go_sem]) ⟨.inl ⟨_, 29, rfl, rfl, rfl⟩, Below.refl _ _, hG⟩
   · obtain rfl := Option.some.inj hi
     have P5 := hS.2.2.2 5 _ 29 rfl rfl (hall { on := 5, ground := .data } (by simp) rfl)
     replace P5 : a.eval (.tmp 29) = .int .i64 (48 + (d : Int)) := P5
     refine op_value (v := .int .u8 (48 + (d : Int))) (w' := w1) rfl rfl (by intro ev ht hc hf; rw [← ht] at P5; simp [execOp, hc, hf, P5, hw8, go_sem]) ⟨.inl ⟨_, 30, rfl, rfl, rfl⟩, Below.refl _ _, hG⟩
   · obtain rfl := Option.some.inj hi
     have P6 := hS.2.2.2 6 _ 30 rfl rfl (hall { on := 6, ground := .data } (by simp) rfl)
     replace P6 : a.eval (.tmp 30) = .int .u8 (48 + (d : Int)) := P6
     refine op_value (v := .slice (some ⟨w1.heap.size, 0, none⟩) 1 1) (w' := w1.alloc (.cells #[.int .u8 (48 + (d : Int))] 5)) rfl rfl (by intro ev ht hc hf; rw [← ht] at P6; simp [execOp, hc, hf, P6, go_sem]; try go_simp) ⟨.inl ⟨_, 31, rfl, rfl, ⟨w1.heap.size, rfl, by simp, World.cell?_alloc_mark _ _ _ _ _⟩⟩, (Below.refl _ _).alloc (Nat.le_refl _) _, hG.alloc hG.size _⟩
   · obtain rfl := Option.some.inj hi
     have P7 := hS.2.2.2 7 _ 31 rfl rfl (hall { on := 7, ground := .data } (by simp) rfl)
     obtain ⟨b, eb, hb1, hb2⟩ := P7
     have hcv := run_digit_at w1 b d hd9 hb2
     refine op_value (v := .string (digS d)) (w' := w1) rfl rfl (by intro ev ht hc hf; rw [← ht] at eb; simp [execOp, hc, hf, eb, hcv, go_sem]) ⟨.inl ⟨_, 32, rfl, rfl, rfl⟩, Below.refl _ _, hG⟩
   · obtain rfl := Option.some.inj hi
     have P2 := hS.2.2.2 2 _ 26 rfl rfl (hall { on := 2, ground := .data } (by simp) rfl)
     replace P2 : a.eval (.tmp 26) = .string q := P2
     have P8 := hS.2.2.2 8 _ 32 rfl rfl (hall { on := 8, ground := .data } (by simp) rfl)
     replace P8 : a.eval (.tmp 32) = .string (digS d) := P8
     refine op_value (v := .string (q ++ digS d)) (w' := w1) rfl rfl (by intro ev ht hc hf; rw [← ht] at P2 P8; simp [execOp, hc, hf, P2, P8, hds, hcat, go_sem]) ⟨.inl ⟨_, 33, rfl, rfl, rfl⟩, Below.refl _ _, hG⟩
   · obtain rfl := Option.some.inj hi
     have P9 := hS.2.2.2 9 _ 33 rfl rfl (hall { on := 9, ground := .data } (by simp) rfl)
     replace P9 : a.eval (.tmp 33) = .string (q ++ digS d) := P9
     refine op_value (v := .string (q ++ digS d)) (w' := w1) rfl rfl (by intro ev ht hc hf; rw [← ht] at P9; simp [execOp, hc, hf, P9, go_sem]) ⟨.inl ⟨_, 2, rfl, rfl, rfl⟩, Below.refl _ _, hG⟩
 case fin =>
   intro listed a w1 hall hS hG
   have e2 : a.tmps.getD 2 undef = .string (q ++ digS d) := hS.2.2.2 10 _ 2 rfl rfl (hall 10 zd)
   have hd : a.defers = [] := hS.1
   refine hK _ _ ?_
   clear hK hS hall
   go_wp2_with fail
   refine bodyPost_ret (v := .string (q ++ digS d)) ((results_tmp Tryz.results64 _ _ _).trans (by rw [e2])) hd ⟨rfl, hG⟩
theorem digS_txt (d : Nat) : digS d = txt [UInt8.ofNat (48 + d)] := rfl
theorem number_nat : ∀ (f n : Nat), n < 10 ^ (f + 1) → f ≤ 18 → n ≤ 9223372036854775807 → ∀ w, Calls Tryz.prog 64 #[.int .i64 n] w fun e w' => e = .returned (.string (txt (decN (f + 1) n))) ∧ Below w.heap.size w w' := by
 intro f
 induction f with
 | zero =>
   intro n hn _ _ w
   rw [decN_small (by simpa using hn), ← digS_txt]
   exact number_digit n w (by simpa using hn)
 | succ f ih =>
   intro n hn hf hmax w
   by_cases h10 : n < 10
   · rw [decN_small h10, ← digS_txt]
     exact number_digit n w h10
   · rw [decN_big h10, ← txt_append, ← digS_txt]
     have hp : n < 10 ^ 20 := Nat.lt_of_lt_of_le hn (Nat.pow_le_pow_right zO zO)
     rw [Nat.pow_succ] at hn
     have hq : n / 10 < 10 ^ (f + 1) := by omega
     have hn18 : (10 : Nat) ^ (f + 1 + 1) ≤ 10 ^ 20 := Nat.pow_le_pow_right zO zO
     exact number_more n (n / 10) (n % 10) _ w zO hmax rfl rfl (by rw [txt_size]; have := decN_len (f + 1) (n / 10); omega) (fun w => ih (n / 10) hq zO zO w)
theorem number_any (n : Int) (w : World) (h0 : -9223372036854775807 ≤ n) (h1 : n ≤ 9223372036854775807) : Calls Tryz.prog 64 #[.int .i64 n] w fun e w' => e = .returned (.string (txt (numberT n))) ∧ Below w.heap.size w w' := by
 rcases Int.lt_or_le n 0 with hn | hn
 · have hc := number_nat 18 n.natAbs zO zO zO
   have e : ((n.natAbs : Nat) : Int) = -n := by omega
   obtain ⟨q, hq, hqs⟩ : ∃ q, txt (decN 19 n.natAbs) = q ∧ q.size ≤ 19 := ⟨_, rfl, by rw [txt_size]; exact decN_len 19 _⟩
   rw [hq, e] at hc
   have HE := Lib.hid (show txt (numberT n) = ⟨#[45]⟩ ++ q by
     rw [← hq, numberT, if_pos hn, decN_fuel 20 19 n.natAbs zO zO zO zO]
     exact txt_eq (by rw [ByteArray.data_append, Array.toList_append]; rfl))
   have HC := Lib.hid hc
   have hneg : IntKind.i64.wrap (-n) = -n := by rw [IntKind.wrap_i64]; omega
   have hne : ¬ n = -n := by omega
   have hcat : ¬ 9223372036854775807 < 1 + q.size := by omega
   clear hc hq e
   go_enter Tryz.func64, Tryz.ntmps64
   go_wp2_with fail
   refine (HC.out _).mono ?_
   rintro e w1 ⟨rfl, hb1⟩
   go_wp2
   go_ret
   exact ⟨by rw [HE.out]; rfl, by exact zb⟩
 · obtain ⟨m, rfl⟩ : ∃ m : Nat, n = (m : Int) := ⟨n.toNat, by omega⟩
   have := number_nat 18 m zO zO zO w
   rwa [numberT, if_neg zO, Int.natAbs_natCast, decN_fuel 20 19 m zO zO zO zO]
end
section
def powGo (p : Nat) : Nat → Nat → Nat
 | 0, _ => 1
 | f + 1, r => if r % p = 0 then p * powGo p f (r / p) else 1
theorem powGo_dvd (p : Nat) : ∀ f r, powGo p f r ∣ r
 | 0, r => Nat.one_dvd r
 | f + 1, r => by
   rw [powGo]
   split
   · rename_i h
     have := Nat.mul_dvd_mul_left p (powGo_dvd p f (r / p))
     rwa [Nat.mul_div_cancel' (Nat.dvd_of_mod_eq_zero h)] at this
   · exact Nat.one_dvd r
theorem powGo_form (p : Nat) : ∀ f r, ∃ e, powGo p f r = p ^ e
 | 0, r => ⟨0, rfl⟩
 | f + 1, r => by
   rw [powGo]
   split
   · obtain ⟨e, he⟩ := powGo_form p f (r / p)
     exact ⟨e + 1, by rw [he, Nat.pow_succ, Nat.mul_comm]⟩
   · exact ⟨0, rfl⟩
theorem powGo_left {p : Nat} (hp : 2 ≤ p) : ∀ f r, 1 ≤ r → r ≤ f → ¬ p ∣ r / powGo p f r
 | 0, r, h1, h2 => by omega
 | f + 1, r, h1, h2 => by
   rw [powGo]
   split
   · rename_i h
     have hd := Nat.dvd_of_mod_eq_zero h
     have h3 : 1 ≤ r / p := Nat.div_pos (Nat.le_of_dvd h1 hd) zO
     have h4 : r / p < r := Nat.div_lt_self h1 hp
     rw [← Nat.div_div_eq_div_mul]
     exact powGo_left hp f (r / p) h3 zO
   · rename_i h
     rw [Nat.div_one]
     exact fun hd => h (Nat.mod_eq_zero_of_dvd hd)
theorem powGo_pos {p r : Nat} (f : Nat) (h : 1 ≤ r) : 1 ≤ powGo p f r := Nat.pos_of_dvd_of_pos (powGo_dvd p f r) h
theorem powGo_rest {p r : Nat} (f : Nat) (h : 1 ≤ r) : 1 ≤ r / powGo p f r := Nat.div_pos (Nat.le_of_dvd h (powGo_dvd p f r)) (powGo_pos f h)
def ppGo : Nat → Nat → Nat → List Nat
 | 0, _, _ => []
 | f + 1, p, r => if r ≤ 1 then [] else if 1 < powGo p r r then powGo p r r :: ppGo f (p + 1) (r / powGo p r r) else ppGo f (p + 1) (r / powGo p r r)
def prodL : List Nat → Nat
 | [] => 1
 | x :: L => x * prodL L
theorem prodL_split (L : List Nat) : ∀ k, prodL (L.take k) * prodL (L.drop k) = prodL L := by
 induction L with
 | nil => intro k; simp [prodL]
 | cons x L ih =>
   intro k
   cases k with
   | zero => simp [prodL]
   | succ k => simp only [List.take_succ_cons, List.drop_succ_cons, prodL]; rw [Nat.mul_assoc, ih]
theorem apart_pow {p e r : Nat} (hp : 2 ≤ p) (h : ∀ d, 2 ≤ d → d < p → ¬ d ∣ r) (hn : ¬ p ∣ r) : Nat.Coprime (p ^ e) r := by
 refine Nat.Coprime.pow_left e ?_
 rcases Nat.lt_or_ge (Nat.gcd p r) 2 with h1 | h1
 · have : 1 ≤ Nat.gcd p r := Nat.gcd_pos_of_pos_left r zO
   show Nat.gcd p r = 1
   omega
 · have h2 : Nat.gcd p r ≤ p := Nat.le_of_dvd zO (Nat.gcd_dvd_left p r)
   rcases Nat.eq_or_lt_of_le h2 with h3 | h3
   · exact absurd (by rw [← h3]; exact Nat.gcd_dvd_right p r) hn
   · exact absurd (Nat.gcd_dvd_right p r) (h _ h1 h3)
theorem none_next {p r f : Nat} (hp : 2 ≤ p) (hr : 1 ≤ r) (hf : r ≤ f) (h : ∀ d, 2 ≤ d → d < p → ¬ d ∣ r) : ∀ d, 2 ≤ d → d < p + 1 → ¬ d ∣ r / powGo p f r := by
 intro d h1 h2 hd
 rcases Nat.eq_or_lt_of_le (Nat.le_of_lt_succ h2) with h3 | h3
 · subst h3; exact powGo_left hp f r hr hf hd
 · exact h d h1 h3 (Nat.dvd_trans hd (Nat.div_dvd_of_dvd (powGo_dvd p f r)))
theorem small_one {p r : Nat} (hr : 1 ≤ r) (h : ∀ d, 2 ≤ d → d < p → ¬ d ∣ r) (hlt : r < p) : r = 1 := by
 rcases Nat.lt_or_ge r 2 with h1 | h1
 · omega
 · exact absurd (Nat.dvd_refl r) (h r h1 hlt)
theorem ppGo_spec : ∀ f p r, 2 ≤ p → 1 ≤ r → r < p + f → (∀ d, 2 ≤ d → d < p → ¬ d ∣ r) →
   prodL (ppGo f p r) = r ∧ (∀ x ∈ ppGo f p r, 2 ≤ x) ∧ ∀ k, Nat.Coprime (prodL ((ppGo f p r).take k)) (prodL ((ppGo f p r).drop k))
 | 0, p, r, hp, hr, hf, h => by
   obtain rfl := small_one hr h zO
   exact ⟨rfl, (by intro x hx; cases hx), fun k => by simp [ppGo, prodL, Nat.Coprime]⟩
 | f + 1, p, r, hp, hr, hf, h => by
   rw [ppGo]
   split
   · obtain rfl : r = 1 := by omega
     exact ⟨rfl, (by intro x hx; cases hx), fun k => by simp [prodL, Nat.Coprime]⟩
   · have hd := powGo_dvd p r r
     have hr' := powGo_rest (p := p) r hr
     have hle : r / powGo p r r ≤ r := Nat.div_le_self _ _
     obtain ⟨i1, i2, i3⟩ := ppGo_spec f (p + 1) (r / powGo p r r) zO hr' zO (none_next hp hr (Nat.le_refl r) h)
     have hmul : powGo p r r * (r / powGo p r r) = r := Nat.mul_div_cancel' hd
     have hcop : Nat.Coprime (powGo p r r) (r / powGo p r r) := by
       obtain ⟨e, he⟩ := powGo_form p r r
       have h5 := none_next hp hr (Nat.le_refl r) h
       generalize r / powGo p r r = s at h5
       rw [he]
       exact apart_pow hp (fun d a b => h5 d a zO) (h5 p hp zO)
     split
     · rename_i hw
       refine ⟨by rw [prodL, i1, hmul], ?_, fun k => ?_⟩
       · intro x hx
         rcases List.mem_cons.1 hx with rfl | hx
         · omega
         · exact i2 x hx
       · cases k with
         | zero => simp [prodL, Nat.Coprime]
         | succ k =>
           simp only [List.take_succ_cons, List.drop_succ_cons, prodL]
           refine Nat.Coprime.mul_left ?_ (i3 k)
           refine Nat.Coprime.coprime_dvd_right ?_ hcop
           exact Nat.dvd_trans (Nat.dvd_mul_left _ _) (by rw [prodL_split, i1]; exact Nat.dvd_refl _)
     · rename_i hw
       have hw1 : powGo p r r = 1 := by have := powGo_pos (p := p) r hr; omega
       rw [hw1, Nat.div_one] at i1 i2 i3 ⊢
       exact ⟨i1, i2, i3⟩
def ppL (n : Nat) : List Nat := ppGo n 2 n
def ppK (n k : Nat) : Nat := prodL ((ppL n).take k)
theorem none_two {n : Nat} : ∀ d, 2 ≤ d → d < 2 → ¬ d ∣ n := fun d h1 h2 => by omega
theorem ppL_spec {n : Nat} (hn : 1 ≤ n) : prodL (ppL n) = n ∧ (∀ x ∈ ppL n, 2 ≤ x) ∧ ∀ k, Nat.Coprime (prodL ((ppL n).take k)) (prodL ((ppL n).drop k)) := ppGo_spec n 2 n zO hn zO none_two
theorem ppK_zero (n : Nat) : ppK n 0 = 1 := rfl
theorem ppK_all {n : Nat} (hn : 1 ≤ n) : ppK n (ppL n).length = n := by rw [ppK, List.take_length]; exact (ppL_spec hn).1
theorem prodL_snoc (L : List Nat) (x : Nat) : prodL (L ++ [x]) = prodL L * x := by
 induction L with
 | nil => simp [prodL]
 | cons y L ih => simp only [List.cons_append, prodL, ih, Nat.mul_assoc]
theorem pp_step {n k : Nat} (hn : 1 ≤ n) (hk : k < (ppL n).length) :
   ppK n (k + 1) = ppK n k * (ppL n).getD k 0 ∧ Nat.gcd (ppK n k) ((ppL n).getD k 0) = 1 ∧ 2 ≤ (ppL n).getD k 0 ∧ (ppL n).getD k 0 ∣ n ∧ ppK n (k + 1) ∣ n ∧ ppK n k ∣ n := by
 obtain ⟨a, b, c⟩ := ppL_spec hn
 have hx : (ppL n).getD k 0 = (ppL n)[k] := by simp [List.getD, List.getElem?_eq_getElem hk]
 have hs : ppK n (k + 1) = ppK n k * (ppL n)[k] := by rw [ppK, List.take_add_one, List.getElem?_eq_getElem hk]; exact prodL_snoc _ _
 have hdx : (ppL n)[k] ∣ prodL ((ppL n).drop k) := by rw [List.drop_eq_getElem_cons hk]; exact Nat.dvd_mul_right _ _
 have hall : ∀ j, ppK n j ∣ n := fun j => by
   have := prodL_split (ppL n) j
   rw [a] at this
   exact ⟨_, this.symm⟩
 rw [hx]
 refine ⟨hs, Nat.Coprime.coprime_dvd_right hdx (c k), b _ (List.getElem_mem hk), ?_, hall _, hall _⟩
 have := hall (k + 1)
 rw [hs] at this
 exact Nat.dvd_trans (Nat.dvd_mul_left _ _) this
theorem rankN_one (p q : Int) : rankN p q 1 = 1 := rankN_eq (Nat.le_refl 1) (fun c h _ => h) (fun n => ⟨fun _ => Nat.one_dvd n, fun _ => by simp⟩)
theorem rank_pp {p q : Int} {n k : Nat} (hn : 1 ≤ n) (h : Apart (n : Int) q) (hk : k < (ppL n).length) : rankN p q (ppK n (k + 1)) = Nat.lcm (rankN p q (ppK n k)) (rankN p q ((ppL n).getD k 0)) := by
 obtain ⟨a, b, c, d, e, g⟩ := pp_step hn hk
 rw [a] at e ⊢
 exact rankN_mul (Nat.pos_of_dvd_of_pos g hn) zO b (h.of_nat_dvd e)
def PPState (n k p r : Nat) : Prop :=
 2 ≤ p ∧ 1 ≤ r ∧ r ≤ n ∧ k ≤ (ppL n).length ∧ (∃ f, p + f = n + 2 ∧ (ppL n).drop k = ppGo f p r) ∧ ∀ d, 2 ≤ d → d < p → ¬ d ∣ r
theorem PPState.start {n : Nat} (hn : 1 ≤ n) : PPState n 0 2 n := ⟨by omega, hn, Nat.le_refl n, by omega, ⟨n, by omega, rfl⟩, none_two⟩
theorem PPState.big {n k p r : Nat} (h : PPState n k p r) (hr : 1 < r) : p ≤ r := by
 obtain ⟨a, b, c, d, e, g⟩ := h
 rcases Nat.lt_or_ge r p with h1 | h1
 · have := small_one b g h1; omega
 · exact h1
theorem PPState.opened {n k p r : Nat} (h : PPState n k p r) (hr : 1 < r) : ∃ f, p + 1 + f = n + 2 ∧ (ppL n).drop k = if 1 < powGo p r r then powGo p r r :: ppGo f (p + 1) (r / powGo p r r) else ppGo f (p + 1) (r / powGo p r r) := by
 have hb := h.big hr
 obtain ⟨a, b, c, d, ⟨f, e1, e2⟩, g⟩ := h
 obtain ⟨f, rfl⟩ : ∃ g, f = g + 1 := ⟨f - 1, by omega⟩
 refine ⟨f, by omega, ?_⟩
 rw [e2, ppGo, if_neg zO]
theorem PPState.yes {n k p r : Nat} (h : PPState n k p r) (hr : 1 < r) (hw : 1 < powGo p r r) : k < (ppL n).length ∧ (ppL n).getD k 0 = powGo p r r ∧ PPState n (k + 1) (p + 1) (r / powGo p r r) := by
 obtain ⟨f, f1, f2⟩ := h.opened hr
 obtain ⟨a, b, c, d, _, g⟩ := h
 rw [if_pos hw] at f2
 have hk : k < (ppL n).length := by
   rcases Nat.lt_or_ge k (ppL n).length with h1 | h1
   · exact h1
   · rw [List.drop_eq_nil_of_le h1] at f2; cases f2
 rw [List.drop_eq_getElem_cons hk] at f2
 injection f2 with f3 f4
 refine ⟨hk, by simp [List.getD, List.getElem?_eq_getElem hk, f3], by omega, powGo_rest r b, Nat.le_trans (Nat.div_le_self _ _) c, hk, ⟨f, f1, f4⟩, none_next a b (Nat.le_refl r) g⟩
theorem PPState.no {n k p r : Nat} (h : PPState n k p r) (hr : 1 < r) (hw : ¬ 1 < powGo p r r) : PPState n k (p + 1) (r / powGo p r r) := by
 obtain ⟨f, f1, f2⟩ := h.opened hr
 obtain ⟨a, b, c, d, _, g⟩ := h
 rw [if_neg hw] at f2
 exact ⟨by omega, powGo_rest r b, Nat.le_trans (Nat.div_le_self _ _) c, d, ⟨f, f1, f2⟩, none_next a b (Nat.le_refl r) g⟩
theorem PPState.done {n k p r : Nat} (h : PPState n k p r) (hr : ¬ 1 < r) : k = (ppL n).length := by
 obtain ⟨a, b, c, d, ⟨f, e1, e2⟩, g⟩ := h
 have e3 : ppGo f p r = [] := by
   cases f with
   | zero => rfl
   | succ f => rw [ppGo, if_pos zO]
 rw [e3] at e2
 have := List.drop_eq_nil_iff.1 e2
 omega
def PowState (p r s w : Nat) : Prop := (1 ≤ s ∧ 1 ≤ w) ∧ w * s = r ∧ ∃ f, s ≤ f ∧ w * powGo p f s = powGo p r r
theorem PowState.start {p r : Nat} (hr : 1 ≤ r) : PowState p r r 1 := ⟨⟨hr, Nat.le_refl 1⟩, by omega, r, Nat.le_refl r, by omega⟩
theorem PowState.next {p r s w : Nat} (hp : 2 ≤ p) (h : PowState p r s w) (hs : s % p = 0) : PowState p r (s / p) (w * p) := by
 obtain ⟨⟨a, a2⟩, b, f, c, d⟩ := h
 have hd := Nat.dvd_of_mod_eq_zero hs
 obtain ⟨f, rfl⟩ : ∃ g, f = g + 1 := ⟨f - 1, by omega⟩
 rw [powGo, if_pos hs] at d
 have h4 : s / p < s := Nat.div_lt_self a hp
 exact ⟨⟨Nat.div_pos (Nat.le_of_dvd a hd) zO, Nat.mul_pos a2 zO⟩, by rw [Nat.mul_assoc, Nat.mul_div_cancel' hd, b], f, by omega, by rw [Nat.mul_assoc, d]⟩
theorem PowState.done {p r s w : Nat} (h : PowState p r s w) (hs : ¬ s % p = 0) : w = powGo p r r ∧ s = r / powGo p r r := by
 obtain ⟨⟨a, a2⟩, b, f, c, d⟩ := h
 obtain ⟨f, rfl⟩ : ∃ g, f = g + 1 := ⟨f - 1, by omega⟩
 rw [powGo, if_neg hs, Nat.mul_one] at d
 refine ⟨d, ?_⟩
 rw [← d, ← b]
 exact (Nat.mul_div_cancel_left s a2).symm
theorem PowState.bd {p r s w : Nat} (h : PowState p r s w) : s ≤ r ∧ w ≤ r := by
 obtain ⟨⟨a, a2⟩, b, _⟩ := h
 exact ⟨by have := Nat.le_mul_of_pos_left s a2; omega, by have := Nat.le_mul_of_pos_right w a; omega⟩
end
section
open Go.RowKit
variable {F : Fence} {n : Nat} {P : Program} {md : Region.Mode} {l : List Oper} {o : Oper}
def idle (o : Oper) : Oper := { o with op := .move (.const undef) }
def comesLast (md : Region.Mode) (ops : Array Oper) (m : Nat) : Nat → Array Bool → Bool
 | 0, _ => false
 | f + 1, listed => !(Region.ready md ops listed).isEmpty && (Region.ready md ops listed).all fun i => if i = m then (Region.ready md ops (listed.setIfInBounds m true)).isEmpty else comesLast md ops m f (listed.setIfInBounds i true)
theorem idle_other (i : Nat) (h : i ≠ l.length) : (l ++ [idle o]).toArray[i]? = (l ++ [o]).toArray[i]? := by
 simp only [List.getElem?_toArray]
 rcases Nat.lt_or_ge i l.length with h1 | h1
 · rw [List.getElem?_append_left h1, List.getElem?_append_left h1]
 · rw [List.getElem?_append_right h1, List.getElem?_append_right h1]
   obtain ⟨j, hj⟩ : ∃ j, i - l.length = j + 1 := ⟨i - l.length - 1, by omega⟩
   rw [hj]; rfl
theorem last_at (x : Oper) : (l ++ [x]).toArray[l.length]? = some x := by simp
theorem idle_after (i : Nat) (g : Array Edge → Bool) : ((l ++ [idle o]).toArray[i]?).map (fun x => g x.after) = ((l ++ [o]).toArray[i]?).map (fun x => g x.after) := by
 by_cases h : i = l.length
 · subst h; rw [last_at, last_at]; rfl
 · rw [idle_other i h]
theorem idle_ready (listed : Array Bool) : Region.ready md (l ++ [idle o]).toArray listed = Region.ready md (l ++ [o]).toArray listed := by
 unfold Region.ready
 have hs : (l ++ [idle o]).toArray.size = (l ++ [o]).toArray.size := by simp
 rw [hs]
 refine List.filter_congr fun i _ => ?_
 rw [idle_after i (fun e => e.all fun e => !Region.binds md e || listed.getD e.on false)]
theorem idle_yielded (tmps : Array Value) : yielded (l ++ [idle o]).toArray tmps = yielded (l ++ [o]).toArray tmps := by
 funext j
 have : ((l ++ [idle o]).toArray[j]?).bind (·.dst) = ((l ++ [o]).toArray[j]?).bind (·.dst) := by
   by_cases h : j = l.length
   · subst h; rw [last_at, last_at]; rfl
   · rw [idle_other j h]
 unfold yielded
 rw [this]
theorem wpAnyIn_last {C : World → Prop} {r : Nat} {Q : Act → Prop} {Q' : Exit → Act → World → Prop} (hro : F.round = none) (hdst : o.dst = none) (hnd : noDefer (l ++ [o]).toArray = true)
   (h : ∀ a w, C w → Q a → wpListIn (F.inRound r) n P (l ++ [o]).toArray Q' [o] a w) :
   ∀ (f : Nat) (listed : Array Bool) (a : Act) (w : World), C w → comesLast md (l ++ [o]).toArray l.length f listed = true → wpAnyQIn F n P md (l ++ [idle o]).toArray C Q f listed a → wpAnyIn (F.inRound r) n P md (l ++ [o]).toArray Q' f listed a w
 | 0, _, _, _, _, hT, _ => by cases hT
 | f + 1, listed, a, w, hC, hT, hq => by
   simp only [comesLast, Bool.and_eq_true, Bool.not_eq_true'] at hT
   obtain ⟨hne, hall⟩ := hT
   refine ⟨fun h0 => (by rw [h0] at hne; cases hne), fun i hi => ?_⟩
   have hT := List.all_eq_true.1 hall i hi
   have hqi := hq.2 i (by rw [idle_ready]; exact hi)
   by_cases him : i = l.length
   · subst him
     rw [if_pos rfl, List.isEmpty_iff] at hT
     have hput : ∀ v, a.put (idle o).dst v = a := fun v => by
       have : (idle o).dst = none := hdst
       rw [this]; rfl
     have hQa : Q a := by
       have fin : ∀ a', wpAnyQIn F n P md (l ++ [idle o]).toArray C Q f (listed.setIfInBounds l.length true) a' → Q a' := fun a' ha' => by
         cases f with
         | zero => exact ha'.2
         | succ f => exact ha'.1 (by rw [idle_ready]; exact hT)
       unfold qOpIn at hqi
       rw [last_at] at hqi
       simp only at hqi
       obtain ⟨_, hqi⟩ := hqi
       split at hqi
       · obtain ⟨v, _, hv⟩ := hqi
         rw [hput] at hv
         exact fin _ hv
       · rw [hput] at hqi
         exact fin _ hqi
     have hL := h a w hC hQa
     have back : ∀ a' w', Q' .normal a' w' → wpAnyIn (F.inRound r) n P md (l ++ [o]).toArray Q' f (listed.setIfInBounds l.length true) a' w' := fun a' w' hw' => by
       cases f with
       | zero => exact ⟨hT, hw'⟩
       | succ f => exact ⟨fun _ => hw', fun j hj => by rw [hT] at hj; cases hj⟩
     unfold wpOpIn
     rw [last_at]
     simp only [wpListIn] at hL ⊢
     split
     · rename_i hw
       simp only [hw, if_true] at hL
       exact Oper.wpIn_mono back hL
     · rename_i hw
       simp only [hw] at hL
       exact ⟨hL.1, back _ _ hL.2⟩
   · rw [if_neg him] at hT
     refine wpOpIn_round hro hnd (wpOpIn_mono (K := fun a' w' => C w' ∧ wpAnyQIn F n P md (l ++ [idle o]).toArray C Q f (listed.setIfInBounds i true) a') (fun a' w' hk => wpAnyIn_last hro hdst hnd h f _ a' w' hk.1 hT hk.2) ?_)
     refine wpOpIn_of_qOpIn hro hC (fun a' w' hw' hk => ⟨hw', hk⟩) (K := wpAnyQIn F n P md (l ++ [idle o]).toArray C Q f (listed.setIfInBounds i true)) ?_
     unfold qOpIn at hqi ⊢
     rw [idle_other i him, idle_yielded] at hqi
     exact hqi
theorem wpQuietIn_snoc {ops : Array Oper} {C : World → Prop} {Q : Act → Prop} : ∀ (l : List Oper) (a : Act), wpQuietIn F n P ops C (wpQuietIn F n P ops C Q [o]) l a → wpQuietIn F n P ops C Q (l ++ [o]) a
 | [], _, h => h
 | x :: l, a, h => by
   refine ⟨h.1, ?_⟩
   have h2 := h.2
   split at h2
   · rename_i hw
     rw [if_pos hw]
     exact Oper.quietIn_mono (fun a' h' => wpQuietIn_snoc l a' h') h2
   · rename_i hw
     rw [if_neg hw]
     exact wpQuietIn_snoc l _ h2
theorem wpQuietIn_mono' {ops : Array Oper} {C : World → Prop} {Q Q' : Act → Prop} (hh : ∀ a, Q a → Q' a) : ∀ (l : List Oper) (a : Act), wpQuietIn F n P ops C Q l a → wpQuietIn F n P ops C Q' l a
 | [], a, h => hh a h
 | x :: l, a, h => by
   refine ⟨h.1, ?_⟩
   have h2 := h.2
   split at h2
   · rename_i hw
     rw [if_pos hw]
     exact Oper.quietIn_mono (fun a' h' => wpQuietIn_mono' hh l a' h') h2
   · rename_i hw
     rw [if_neg hw]
     exact wpQuietIn_mono' hh l _ h2
theorem idle_quiet {ops : Array Oper} {C : World → Prop} {Q : Act → Prop} (hdst : o.dst = none) (a : Act) (h : Q a) : wpQuietIn F n P ops C Q [idle o] a := by
 have hput : ∀ v, a.put (idle o).dst v = a := fun v => by
   have : (idle o).dst = none := hdst
   rw [this]; rfl
 refine ⟨fun w _ f hf => (by cases hf), ?_⟩
 split
 · refine ⟨_, fun w _ => ⟨rfl, rfl⟩, ?_⟩
   rw [hput]; exact h
 · rw [hput]; exact h
theorem wpIn_region_last {S : World → Prop} {id r : Nat} {Q : Exit → Act → World → Prop} {a : Act} {w : World} {os L : List Oper} {o : Oper} (hos : os = L ++ [o]) (hS : S w.drew) (hro : F.round = none) (hnd : noDefer os.toArray = true) (hm : P.follows .mixedOrders = true)
   (hB : Region.lexB .any (L ++ [idle o]).toArray = true) (hT : comesLast .any os.toArray L.length os.length (Array.replicate os.length false) = true) (hdst : o.dst = none)
   (h : wpQuietIn F n P (L ++ [idle o]).toArray (fun w' => ∃ i : KeptBy S, w' = i.world) (fun a' => ∀ w', S w' → wpListIn (F.inRound r) n P os.toArray Q [o] a' w') L a) : (Code.region id os.toArray true).wpIn (F.inRound r) n P Q a w := by
 subst hos
 refine wpIn_region_any hm ?_
 simp only [Region.lexB, Bool.and_eq_true] at hB
 have hq := wpAnyQIn_lex (F := F) (n := n) (C := fun w' => ∃ i : KeptBy S, w' = i.world) (md := .any) hB.1 (L ++ [idle o]) 0 (Array.replicate (L ++ [idle o]).toArray.size false) a (by simp) (by simpa using hB.2) (wpQuietIn_snoc L a (by
   refine wpQuietIn_mono' (fun a' h' => idle_quiet hdst a' h') L a h))
 have hsz : (L ++ [idle o]).length = (L ++ [o]).length := by simp
 rw [hsz] at hq
 have := wpAnyIn_last (C := fun w' => ∃ i : KeptBy S, w' = i.world) (r := r) (Q := fun a' => ∀ w', S w' → wpListIn (F.inRound r) n P (L ++ [o]).toArray Q [o] a' w') (Q' := Q) hro hdst hnd (fun a' w' hC hQ => hQ w' (by obtain ⟨i, hi⟩ := hC; rw [hi]; exact i.ok)) _ _ a w.drew (⟨⟨w.drew, hS⟩, rfl⟩ : ∃ i : KeptBy S, w.drew = i.world) hT (by simpa using hq)
 simpa using this
theorem wpIn_region_last_at {S : World → Prop} {id r : Nat} (m : Nat) {Q : Exit → Act → World → Prop} {a : Act} {w : World} {os : List Oper} {o : Oper} (hd : os.drop m = [o]) (hS : S w.drew) (hro : F.round = none) (hnd : noDefer os.toArray = true) (hm : P.follows .mixedOrders = true)
   (hB : Region.lexB .any (os.take m ++ [idle o]).toArray = true) (hT : comesLast .any os.toArray (os.take m).length os.length (Array.replicate os.length false) = true) (hdst : o.dst = none)
   (h : wpQuietIn F n P (os.take m ++ [idle o]).toArray (fun w' => ∃ i : KeptBy S, w' = i.world) (fun a' => ∀ w', S w' → wpListIn (F.inRound r) n P os.toArray Q [o] a' w') (os.take m) a) : (Code.region id os.toArray true).wpIn (F.inRound r) n P Q a w :=
 wpIn_region_last (by rw [← hd, List.take_append_drop]) hS hro hnd hm hB hT hdst h
end
section
open Go.RowKit
structure KeepsRecs (W W' : World) : Prop where
 size : W.heap.size ≤ W'.heap.size
 same : ∀ (j : Nat) (o : Obj), W.heap[j]? = some o → o.isCells = false → o.isWalk = false → W'.heap[j]? = some o
theorem keepsOthers_recs {W W' : World} (h : KeepsOthers W W') : KeepsRecs W W' := ⟨h.size, fun j o h1 h2 _ => h.same j o h1 h2⟩
theorem KeepsRecs.trans {A B C : World} (h : KeepsRecs A B) (k : KeepsRecs B C) : KeepsRecs A C := ⟨Nat.le_trans h.size k.size, fun j o h1 h2 h3 => k.same j o (h.same j o h1 h2 h3) h2 h3⟩
theorem KeepsRecs.map {W W' : World} {b : Nat} (hg : W.grownBy W' (some b)) (hb : ∃ es c, W.heap[b]? = some (.map es c)) : KeepsRecs W W' := by
 refine ⟨hg.size, fun j o h1 h2 h3 => ?_⟩
 obtain ⟨es, c, hb⟩ := hb
 have hne : j ≠ b := fun e => by subst e; rw [hb] at h1; injection h1 with h1; subst h1; cases h3
 exact (hg.block j (Array.getElem?_eq_some_iff.1 h1).1 (fun e => hne (by injection e))).trans h1
theorem Held.recs {w A B : World} {o : Obj} (h : Held w A o) (ho : o.isCells = false) (hw : o.isWalk = false) (hk : KeepsRecs A B) : Held w B o := ⟨hk.same _ _ h.1 ho hw, hk.same _ _ h.2 rfl rfl⟩
def countEndM (I : Nat → World → Prop) (X : Code → Nat → World → Prop) (k : Nat) (W : World) : Exit → Act → World → Prop
 | .normal, _, V => KeepsRecs W V ∧ I (k + 1) V
 | .ret, _, V => KeepsRecs W V ∧ X .ret k V
 | .exit id, _, V => KeepsRecs W V ∧ X (.exit id) k V
 | .goto t, _, V => KeepsRecs W V ∧ X (.goto t) k V
 | .panic _, _, _ => False
 | .outgrown, _, _ => False
variable {F : Fence} {n : Nat} {P : Program}
theorem wpIn_rangeFunc_counted_map {g : Operand} {ps : Array Tmp} {assign body : Code} {Q : Exit → Act → World → Prop} {a : Act} {w : World}
   (hro : F.round = none) (h1 : 1 ≤ n) {gf : Nat} {lb : Array Value} (hg : a.eval g = .func (.func gf) #[] lb) (hFg : F.fn gf) (eg : ∀ args V, (callFunc gf args).run P V = .ok (.enter gf args) V)
   {at_ : Nat → Array Value} {Kp : World → Prop} {N : Nat} {w0 : World} (hseq : Counted F (n - 1) P gf lb at_ Kp N w0) (hb0 : Below w0.heap.size w0 w) (hps : ∀ k, (at_ k).size = ps.size)
   (I : Nat → World → Prop) (X : Code → Nat → World → Prop) (hI : OwnFrom w.heap.size I) (hX : ∀ c, OwnFrom w.heap.size (X c)) (hKp : ∀ k V, I k V → Kp V) (h0 : I 0 w) (a₁ : Nat → Act)
   (hassign : ∀ (l k : Nat) (W : World) (K : Act → World → Prop), K (a₁ k) W →
     assign.wpIn (F.inRound l) (n - 1 - 1) P (Exit.then K (fun _ _ _ => False)) { tmps := (ps.zip (at_ k)).foldl (fun t (p, v) => t.setIfInBounds p v) a.tmps, defers := [] } W)
   (hbody : ∀ (l k : Nat) (W : World), k < N → I k W → body.wpIn (F.inRound l) (n - 1 - 1) P (countEndM I X k W) (a₁ k) W)
   (hdone : ∀ (D : Nat) (W : World), w.heap.size ≤ D → I N W → W.heap[D]? = some (.deferred (some [])) → Q .normal { a with defers := { target := .collected D, args := #[] } :: a.defers } W)
   (hstop : ∀ (D k : Nat) (c : Code) (W : World), w.heap.size ≤ D → k < N → X c k W → W.heap[D]? = some (.deferred (some [])) → c.wpIn F n P Q { a with defers := { target := .collected D, args := #[] } :: a.defers } W) :
   (Code.rangeFunc g ps assign body).wpIn F n P Q a w := by
 refine wpIn_rangeFunc fun fn hfn => ?_
 rw [hro]
 obtain ⟨rec, hrec⟩ : ∃ rec : LoopState → Option Code → Obj, rec = recordOf w fn a ps assign body := ⟨_, rfl⟩
 have held : Held w ((w.alloc (.deferred (some []))).alloc (rec .ready none)) (rec .ready none) := by
   refine ⟨?_, (Below.heap_alloc _ _ _ (by simp)).trans (World.alloc_heap_new w _)⟩
   have := World.alloc_heap_new (w.alloc (.deferred (some []))) (rec .ready none)
   rwa [World.size_alloc] at this
 have hI1 : I 0 ((w.alloc (.deferred (some []))).alloc (rec .ready none)) := hI.alloc _ (hI.alloc _ h0)
 have hb1 : Below w0.heap.size w0 ((w.alloc (.deferred (some []))).alloc (rec .ready none)) := hb0.trans ((((Below.refl _ w).alloc (Nat.le_refl _) _).alloc (by simp) _).mono hb0.size)
 have hsz : w.heap.size ≤ ((w.alloc (.deferred (some []))).alloc (rec .ready none)).heap.size := by simp; omega
 obtain ⟨W1, hW1⟩ : ∃ W1, (w.alloc (.deferred (some []))).alloc (rec .ready none) = W1 := ⟨_, rfl⟩
 rw [hW1] at held hI1 hb1 hsz
 refine ⟨w.heap.size + 1, [{ target := .collected w.heap.size, args := #[] }], W1, { target := .fn (.func gf) lb, args := #[.func (.yield (w.heap.size + 1)) #[] #[]] }, W1, gf, #[.func (.yield (w.heap.size + 1)) #[] #[]] ++ lb, W1,
   by rw [← hW1, hrec]; exact run_enterLoop_outer _ _ _ _ _, by simp only [resolve, hg]; simp [go_sem], fun f' hf' => by simp [Target.leads] at hf'; subst hf'; exact hFg, by simp [invoke, go_sem, eg], fun _ => h1, ?_⟩
 have nowalk : ∀ {A : World} {row : Option Nat}, (∀ r, row = some r → W1.heap.size ≤ r ∧ ∃ o : Obj, A.heap[r]? = some o ∧ o.isWalk = true) → (∀ r, row = some r → w.heap.size ≤ r ∧ ∃ o : Obj, A.heap[r]? = some o ∧ o.isCells = false) :=
   fun hr r e => by obtain ⟨hB, o, ho, hw⟩ := hr r e; exact ⟨by omega, o, ho, Obj.not_cells_of_walk hw⟩
 have recW : ∀ st pe, (rec st pe).isWalk = false := fun _ _ => by rw [hrec]; rfl
 have recC : ∀ st pe, (rec st pe).isCells = false := fun _ _ => by rw [hrec]; rfl
 refine (hseq (w.heap.size + 1) (fun k W => I k W ∧ Held w W (rec .ready none)) (fun k W => ∃ c, X c k W ∧ Held w W (rec .done (some c))) W1 hb1
   (fun s A B row hs hg' hr => ⟨hI s A B row hs.1 hg' (nowalk hr), hs.2.kept (recW _ _) hg' (fun r e => (hr r e).2)⟩)
   (fun s A B row hs hg' hr => by obtain ⟨c, hc, hh⟩ := hs; exact ⟨c, hX c s A B row hc hg' (nowalk hr), hh.kept (recW _ _) hg' (fun r e => (hr r e).2)⟩)
   (fun k V hj => hKp k V hj.1) ?round ⟨hI1, held⟩).mono ?behind
 case round =>
   rintro k W hk ⟨hi, hh⟩
   have hl : W.heap[w.heap.size + 1]? = some (.loop { state := .ready, pending := none, fn := fn, tmps := a.tmps, params := ps, assign := assign, body := body, defers := w.heap.size }) := by have := hh.1; rw [hrec] at this; exact this
   refine ⟨fn, _, assign, body, run_yield (P := P) (args := at_ k) hl (hps k), roundIn_of_wpIn hfn (hassign _ k W _ ⟨_, run_beginRound hl rfl, ?_⟩)⟩
   have busy : Held w (W.putObj (w.heap.size + 1) (rec .busy none)) (rec .busy none) := hh.turned _
   have hi2 : I k (W.putObj (w.heap.size + 1) (rec .busy none)) := hI.putObj _ hi zO hl rfl
   have fin : ∀ (jump : Option Code) (V : World), KeepsRecs (W.putObj (w.heap.size + 1) (rec .busy none)) V → ∃ r : Loop, V.heap[w.heap.size + 1]? = some (.loop r) ∧
       (Instr.endRound (w.heap.size + 1) jump).run P V = .ok (.bool jump.isNone) (V.putObj (w.heap.size + 1) (rec (if jump.isNone then .ready else .done) jump)) ∧ Held w (V.putObj (w.heap.size + 1) (rec (if jump.isNone then .ready else .done) jump)) (rec (if jump.isNone then .ready else .done) jump) := fun jump V hkV => by
     have hv := busy.recs (recC _ _) (recW _ _) hkV
     have hv1 := hv.1
     rw [hrec] at hv1
     have hr := run_endRound (P := P) jump hv1
     refine ⟨_, hv1, ?_, hv.turned _⟩
     rw [hrec]; exact hr
   rw [hrec] at hi2 busy
   refine wpIn_mono (hbody _ k _ hk hi2) ?_
   rintro e a3 V hp
   have stop : ∀ c : Code, KeepsRecs (W.putObj (w.heap.size + 1) (recordOf w fn a ps assign body .busy none)) V ∧ X c k V →
       ∃ v V', (Instr.endRound (w.heap.size + 1) (some c)).run P V = .ok v V' ∧ ((Ending.returned v = .returned (.bool true) ∧ (I (k + 1) V' ∧ Held w V' (rec .ready none))) ∨ (Ending.returned v = .returned (.bool false) ∧ ∃ c, X c k V' ∧ Held w V' (rec .done (some c)))) := fun c hc => by
     obtain ⟨r, hl3, hr, hh3⟩ := fin (some c) V (by rw [hrec]; exact hc.1)
     exact ⟨_, _, hr, .inr ⟨rfl, c, (hX c).putObj _ hc.2 zO hl3 rfl, hh3⟩⟩
   cases e with
   | normal =>
     obtain ⟨hk3, hi3⟩ := hp
     obtain ⟨r, hl3, hr, hh3⟩ := fin none V (by rw [hrec]; exact hk3)
     exact ⟨_, _, hr, .inl ⟨rfl, hI.putObj _ hi3 zO hl3 rfl, hh3⟩⟩
   | ret => exact stop _ hp
   | exit id => exact stop _ hp
   | goto t => exact stop _ hp
   | panic ch => exact hp.elim
   | outgrown => exact hp.elim
 case behind =>
   rintro e V ⟨⟨v, rfl⟩, (⟨hi, hh⟩ | ⟨k, hk, c, hc, hh⟩)⟩
   · have hl := hh.1
     rw [hrec] at hl
     refine ⟨none, _, run_endLoop (P := P) hl (by simp), hdone _ _ (Nat.le_refl _) (hI.putObj _ hi zO hl rfl) ?_⟩
     exact (World.putObj_heap_other zO).trans hh.2
   · have hl := hh.1
     rw [hrec] at hl
     refine ⟨some c, _, run_endLoop (P := P) hl (by simp), hstop _ k c _ (Nat.le_refl _) hk ((hX c).putObj _ hc zO hl rfl) ?_⟩
     exact (World.putObj_heap_other zO).trans hh.2
end
section
theorem fibN_mono : ∀ i, i < 25 → ∀ j, j < 25 → 2 ≤ i → i ≤ j → fibN i ≤ fibN j := by decide +kernel
theorem fibN_pos : ∀ i, i < 25 → 1 ≤ i → 1 ≤ fibN i := by decide +kernel
theorem zeckFrom_le : ∀ (k n : Nat), ∀ x ∈ zeckFrom k n, fibN x ≤ n ∧ 2 ≤ x ∧ x ≤ k
 | 0, n, x, h => by simp [zeckFrom] at h
 | 1, n, x, h => by simp [zeckFrom] at h
 | k + 2, n, x, h => by
   rw [zeckFrom] at h
   split at h
   · rename_i hc
     rcases List.mem_cons.1 h with rfl | h
     · exact ⟨hc.2, by omega, by omega⟩
     · have := zeckFrom_le (k + 1) _ x h; omega
   · have := zeckFrom_le (k + 1) _ x h; omega
theorem zeckFrom_gaps : ∀ (k n : Nat), k < 23 → n < fibN (k + 1) → (zeckFrom k n).Pairwise (fun a b => b + 2 ≤ a)
 | 0, n, _, _ => by simp [zeckFrom]
 | 1, n, _, _ => by simp [zeckFrom]
 | k + 2, n, hk, h => by
   have hn := fibN_next (k + 1) zO
   have e1 : fibN (k + 1 + 2) = fibN (k + 2 + 1) := rfl
   have e2 : fibN (k + 1 + 1) = fibN (k + 2) := rfl
   have hm := fibN_next k zO
   rw [zeckFrom]
   split
   · rename_i hc
     refine List.pairwise_cons.2 ⟨fun x hx => ?_, zeckFrom_gaps (k + 1) _ zO zO⟩
     obtain ⟨a, b, c⟩ := zeckFrom_le (k + 1) _ x hx
     have hr : n - fibN (k + 2) < fibN (k + 1) := by omega
     rcases Nat.lt_or_ge x (k + 1) with h' | h'
     · omega
     · have hx1 : x = k + 1 := by omega
       subst hx1; omega
   · rename_i hc
     refine zeckFrom_gaps (k + 1) n zO ?_
     rw [e2]
     have hp := fibN_pos (k + 2) zO zO
     rcases Nat.eq_zero_or_pos n with h0 | h0
     · omega
     · exact Nat.lt_of_not_le fun hh => hc ⟨h0, hh⟩
theorem zeck_gaps {n : Nat} (h : n ≤ 10000) : (zeck n).Pairwise (fun a b => b + 2 ≤ a) := zeckFrom_gaps 20 n zO (Nat.lt_of_le_of_lt h zd)
end
section
open Go.RowKit
theorem number_is (n : Int) (X : ByteArray) (w : World) (h0 : -9223372036854775807 ≤ n) (h1 : n ≤ 9223372036854775807) (hX : txt (numberT n) = X) : Calls Tryz.prog 64 #[.int .i64 n] w fun e w' => e = .returned (.string X) ∧ Below w.heap.size w w' := by rw [← hX]; exact number_any n w h0 h1
set_option maxRecDepth 100000 in
set_option maxHeartbeats 2000000 in
theorem specText_take (a b : Int) (w : World) (ha1 : -9 ≤ a) (ha2 : a ≤ 9) (hb1 : -9 ≤ b) (hb2 : b ≤ 9) : Calls Tryz.prog 78 #[.agg #[.int .i64 0, .int .i64 a, .int .i64 b]] w fun e w' => e = .returned (.string (txt (deedT ⟨0, a, b⟩))) ∧ Below w.heap.size w w' := by
 have hA0 := (decide_eq_true (show -9 ≤ a ∧ a ≤ 9 from ⟨ha1, ha2⟩) : inB a (-9) 9 = true)
 have hB0 := (decide_eq_true (show -9 ≤ b ∧ b ≤ 9 from ⟨hb1, hb2⟩) : inB b (-9) 9 = true)
 obtain ⟨A, hA, hAs, hAl⟩ := small_text ha1 ha2
 obtain ⟨B, hB, hBs, hBl⟩ := small_text hb1 hb2
 have HE := Lib.hid (take_text2 ⟨ha1, ha2, hb1, hb2⟩ hAl hBl)
 have HIA := Lib.hid (fun W => number_is a A W zO zO hA)
 have HIB := Lib.hid (fun W => number_is b B W zO zO hB)
 clear hA hB hAl hBl
 have s1 : ¬ 9223372036854775807 < 5 + A.size := by omega
 have s2 : ¬ 9223372036854775807 < 5 + A.size + 1 := by omega
 have s3 : ¬ 9223372036854775807 < 5 + A.size + 1 + B.size := by omega
 go_enter Tryz.func78, Tryz.ntmps78
 go_wp2_with fail
 refine (l1In_is a (-9) 9 true _ hA0).mono ?_
 rintro e wa ⟨rfl, hwa⟩
 subst hwa
 go_wp2_with fail
 refine (l1In_is b (-9) 9 true _ hB0).mono ?_
 rintro e wb ⟨rfl, hwb⟩
 subst hwb
 go_wp2_with fail
 refine region_namedD ?_
 intro w1 hw1
 have hz1 : w1.heap.size = w.heap.size + 1 := by rw [hw1]; simp
 have hb1' : Below w.heap.size w w1 := by rw [hw1]; exact zb
 have cb0 : w1.cell? ⟨w.heap.size, 0, none⟩ = some (.int .i64 0) := by rw [hw1]; go_simp
 have cb1 : w1.cell? ⟨w.heap.size, 1, none⟩ = some (.int .i64 a) := by rw [hw1]; go_simp
 have cb2 : w1.cell? ⟨w.heap.size, 2, none⟩ = some (.int .i64 b) := by rw [hw1]; go_simp
 have hs1 : w.heap.size < w1.heap.size := by omega
 clear hw1
 go_wp2_with fail
 go_region_held3 (fun W_ => W_.cell? ⟨w.heap.size, 0, none⟩ = some (.int .i64 0) ∧ W_.cell? ⟨w.heap.size, 1, none⟩ = some (.int .i64 a) ∧ W_.cell? ⟨w.heap.size, 2, none⟩ = some (.int .i64 b))
   ((go_split_ands; refine ⟨?_, ?_, ?_⟩ <;> (repeat (first | with_reducible assumption | with_reducible refine cell_alloc_is _ ?_ | with_reducible refine cell_drew_is ?_ | with_reducible refine cell_set_is ?_ ?_ | omega)); done))
   ((first | (go_at_call 64; with_reducible refine (HIA.out _).mono ?_; rintro e w_2 ⟨rfl, hb_2⟩; obtain ⟨hc_2, hf_2⟩ := bcell hb_2; have hz_2 := hb_2.size; (try simp at hz_2); (try have hq_2 : w.heap.size < w_2.heap.size := by omega); have kx0 := (hb_2.cell (p := ⟨w.heap.size, 0, none⟩) zo).trans (show _ = some (.int .i64 0) by (repeat (first | with_reducible assumption | with_reducible refine cell_alloc_is _ ?_ | with_reducible refine cell_drew_is ?_ | with_reducible refine cell_set_is ?_ ?_ | omega))); have kx1 := (hb_2.cell (p := ⟨w.heap.size, 1, none⟩) zo).trans (show _ = some (.int .i64 a) by (repeat (first | with_reducible assumption | with_reducible refine cell_alloc_is _ ?_ | with_reducible refine cell_drew_is ?_ | with_reducible refine cell_set_is ?_ ?_ | omega))); have kx2 := (hb_2.cell (p := ⟨w.heap.size, 2, none⟩) zo).trans (show _ = some (.int .i64 b) by (repeat (first | with_reducible assumption | with_reducible refine cell_alloc_is _ ?_ | with_reducible refine cell_drew_is ?_ | with_reducible refine cell_set_is ?_ ?_ | omega)))) | (go_at_call 64; with_reducible refine (HIB.out _).mono ?_; rintro e w_2 ⟨rfl, hb_2⟩; obtain ⟨hc_2, hf_2⟩ := bcell hb_2; have hz_2 := hb_2.size; (try simp at hz_2); (try have hq_2 : w.heap.size < w_2.heap.size := by omega); have kx0 := (hb_2.cell (p := ⟨w.heap.size, 0, none⟩) zo).trans (show _ = some (.int .i64 0) by (repeat (first | with_reducible assumption | with_reducible refine cell_alloc_is _ ?_ | with_reducible refine cell_drew_is ?_ | with_reducible refine cell_set_is ?_ ?_ | omega))); have kx1 := (hb_2.cell (p := ⟨w.heap.size, 1, none⟩) zo).trans (show _ = some (.int .i64 a) by (repeat (first | with_reducible assumption | with_reducible refine cell_alloc_is _ ?_ | with_reducible refine cell_drew_is ?_ | with_reducible refine cell_set_is ?_ ?_ | omega))); have kx2 := (hb_2.cell (p := ⟨w.heap.size, 2, none⟩) zo).trans (show _ = some (.int .i64 b) by (repeat (first | with_reducible assumption | with_reducible refine cell_alloc_is _ ?_ | with_reducible refine cell_drew_is ?_ | with_reducible refine cell_set_is ?_ ?_ | omega)))) | fail))
 all_goals
   go_wp2_with fail
   go_ret
   exact ⟨by rw [HE.out]; rfl, by (repeat (first | exact hb1' | exact Below.refl _ _ | refine Below.setCell ?_ zo _ | refine Below.alloc ?_ zo _ | refine Below.drew ?_ | refine Below.trans ?_ (Below.mono (by assumption) zo)))⟩
set_option maxRecDepth 100000 in
set_option maxHeartbeats 2000000 in
theorem specText_notA (a b : Int) (w : World) (h : ¬ (-9 ≤ a ∧ a ≤ 9)) : Calls Tryz.prog 78 #[.agg #[.int .i64 0, .int .i64 a, .int .i64 b]] w fun e w' => e = .returned (.string (txt (deedT ⟨0, a, b⟩))) ∧ Below w.heap.size w w' := by
 have HE := Lib.hid (deedT_not (a := a) (b := b) zO)
 have hA0 := (decide_eq_false h : inB a (-9) 9 = false)
 go_enter Tryz.func78, Tryz.ntmps78
 go_wp2_with fail
 refine (l1In_is a (-9) 9 false _ hA0).mono ?_
 rintro e wa ⟨rfl, hwa⟩
 subst hwa
 go_wp2
 go_ret
 exact ⟨by rw [HE.out]; rfl, by exact zb⟩
set_option maxRecDepth 100000 in
set_option maxHeartbeats 2000000 in
theorem specText_notB (a b : Int) (w : World) (h1 : -9 ≤ a ∧ a ≤ 9) (h : ¬ (-9 ≤ b ∧ b ≤ 9)) : Calls Tryz.prog 78 #[.agg #[.int .i64 0, .int .i64 a, .int .i64 b]] w fun e w' => e = .returned (.string (txt (deedT ⟨0, a, b⟩))) ∧ Below w.heap.size w w' := by
 have HE := Lib.hid (deedT_not (a := a) (b := b) zO)
 have hA0 := (decide_eq_true h1 : inB a (-9) 9 = true)
 have hB0 := (decide_eq_false h : inB b (-9) 9 = false)
 go_enter Tryz.func78, Tryz.ntmps78
 go_wp2_with fail
 refine (l1In_is a (-9) 9 true _ hA0).mono ?_
 rintro e wa ⟨rfl, hwa⟩
 subst hwa
 go_wp2_with fail
 refine (l1In_is b (-9) 9 false _ hB0).mono ?_
 rintro e wb ⟨rfl, hwb⟩
 subst hwb
 go_wp2
 go_ret
 exact ⟨by rw [HE.out]; rfl, by exact zb⟩
set_option maxRecDepth 100000 in
set_option maxHeartbeats 2000000 in
theorem specText_word1 (w : World) : Calls Tryz.prog 78 #[.agg #[.int .i64 1, .int .i64 0, .int .i64 0]] w fun e w' => e = .returned (.string (txt (deedT ⟨1, 0, 0⟩))) ∧ Below w.heap.size w w' := by
 have HE := Lib.hid (show deedT ⟨1, 0, 0⟩ = [116, 117, 114, 110] by decide)
 go_enter Tryz.func78, Tryz.ntmps78
 go_wp2
 go_ret
 exact ⟨by rw [HE.out]; rfl, by exact zb⟩
set_option maxRecDepth 100000 in
set_option maxHeartbeats 2000000 in
theorem specText_named1 (a b : Int) (w : World) (h : ¬ (a = 0 ∧ b = 0)) : Calls Tryz.prog 78 #[.agg #[.int .i64 1, .int .i64 a, .int .i64 b]] w fun e w' => e = .returned (.string (txt (deedT ⟨1, a, b⟩))) ∧ Below w.heap.size w w' := by
 have HE := Lib.hid (deedT_named (k := 1) zd h)
 by_cases ha : a = 0
 · have hb : ¬ b = 0 := fun e => h ⟨ha, e⟩
   subst ha
   have hbf : (b == 0) = false := by simp [hb]
   clear h
   go_enter Tryz.func78, Tryz.ntmps78
   go_wp2
   go_ret
   exact ⟨by rw [HE.out]; rfl, by exact zb⟩
 · have haf : (a == 0) = false := by simp [ha]
   clear h
   go_enter Tryz.func78, Tryz.ntmps78
   go_wp2
   go_ret
   exact ⟨by rw [HE.out]; rfl, by exact zb⟩
set_option maxRecDepth 100000 in
set_option maxHeartbeats 2000000 in
theorem specText_word2 (w : World) : Calls Tryz.prog 78 #[.agg #[.int .i64 2, .int .i64 0, .int .i64 0]] w fun e w' => e = .returned (.string (txt (deedT ⟨2, 0, 0⟩))) ∧ Below w.heap.size w w' := by
 have HE := Lib.hid (show deedT ⟨2, 0, 0⟩ = [117, 112] by decide)
 go_enter Tryz.func78, Tryz.ntmps78
 go_wp2
 go_ret
 exact ⟨by rw [HE.out]; rfl, by exact zb⟩
set_option maxRecDepth 100000 in
set_option maxHeartbeats 2000000 in
theorem specText_named2 (a b : Int) (w : World) (h : ¬ (a = 0 ∧ b = 0)) : Calls Tryz.prog 78 #[.agg #[.int .i64 2, .int .i64 a, .int .i64 b]] w fun e w' => e = .returned (.string (txt (deedT ⟨2, a, b⟩))) ∧ Below w.heap.size w w' := by
 have HE := Lib.hid (deedT_named (k := 2) zd h)
 by_cases ha : a = 0
 · have hb : ¬ b = 0 := fun e => h ⟨ha, e⟩
   subst ha
   have hbf : (b == 0) = false := by simp [hb]
   clear h
   go_enter Tryz.func78, Tryz.ntmps78
   go_wp2
   go_ret
   exact ⟨by rw [HE.out]; rfl, by exact zb⟩
 · have haf : (a == 0) = false := by simp [ha]
   clear h
   go_enter Tryz.func78, Tryz.ntmps78
   go_wp2
   go_ret
   exact ⟨by rw [HE.out]; rfl, by exact zb⟩
set_option maxRecDepth 100000 in
set_option maxHeartbeats 2000000 in
theorem specText_word3 (w : World) : Calls Tryz.prog 78 #[.agg #[.int .i64 3, .int .i64 0, .int .i64 0]] w fun e w' => e = .returned (.string (txt (deedT ⟨3, 0, 0⟩))) ∧ Below w.heap.size w w' := by
 have HE := Lib.hid (show deedT ⟨3, 0, 0⟩ = [100, 111, 119, 110] by decide)
 go_enter Tryz.func78, Tryz.ntmps78
 go_wp2
 go_ret
 exact ⟨by rw [HE.out]; rfl, by exact zb⟩
set_option maxRecDepth 100000 in
set_option maxHeartbeats 2000000 in
theorem specText_named3 (a b : Int) (w : World) (h : ¬ (a = 0 ∧ b = 0)) : Calls Tryz.prog 78 #[.agg #[.int .i64 3, .int .i64 a, .int .i64 b]] w fun e w' => e = .returned (.string (txt (deedT ⟨3, a, b⟩))) ∧ Below w.heap.size w w' := by
 have HE := Lib.hid (deedT_named (k := 3) zd h)
 by_cases ha : a = 0
 · have hb : ¬ b = 0 := fun e => h ⟨ha, e⟩
   subst ha
   have hbf : (b == 0) = false := by simp [hb]
   clear h
   go_enter Tryz.func78, Tryz.ntmps78
   go_wp2
   go_ret
   exact ⟨by rw [HE.out]; rfl, by exact zb⟩
 · have haf : (a == 0) = false := by simp [ha]
   clear h
   go_enter Tryz.func78, Tryz.ntmps78
   go_wp2
   go_ret
   exact ⟨by rw [HE.out]; rfl, by exact zb⟩
set_option maxRecDepth 100000 in
set_option maxHeartbeats 2000000 in
theorem specText_word4 (w : World) : Calls Tryz.prog 78 #[.agg #[.int .i64 4, .int .i64 0, .int .i64 0]] w fun e w' => e = .returned (.string (txt (deedT ⟨4, 0, 0⟩))) ∧ Below w.heap.size w w' := by
 have HE := Lib.hid (show deedT ⟨4, 0, 0⟩ = [98, 97, 99, 107] by decide)
 go_enter Tryz.func78, Tryz.ntmps78
 go_wp2
 go_ret
 exact ⟨by rw [HE.out]; rfl, by exact zb⟩
set_option maxRecDepth 100000 in
set_option maxHeartbeats 2000000 in
theorem specText_named4 (a b : Int) (w : World) (h : ¬ (a = 0 ∧ b = 0)) : Calls Tryz.prog 78 #[.agg #[.int .i64 4, .int .i64 a, .int .i64 b]] w fun e w' => e = .returned (.string (txt (deedT ⟨4, a, b⟩))) ∧ Below w.heap.size w w' := by
 have HE := Lib.hid (deedT_named (k := 4) zd h)
 by_cases ha : a = 0
 · have hb : ¬ b = 0 := fun e => h ⟨ha, e⟩
   subst ha
   have hbf : (b == 0) = false := by simp [hb]
   clear h
   go_enter Tryz.func78, Tryz.ntmps78
   go_wp2
   go_ret
   exact ⟨by rw [HE.out]; rfl, by exact zb⟩
 · have haf : (a == 0) = false := by simp [ha]
   clear h
   go_enter Tryz.func78, Tryz.ntmps78
   go_wp2
   go_ret
   exact ⟨by rw [HE.out]; rfl, by exact zb⟩
set_option maxRecDepth 100000 in
set_option maxHeartbeats 2000000 in
theorem specText_off (k a b : Int) (w : World) (h : k < 0 ∨ 4 < k) : Calls Tryz.prog 78 #[.agg #[.int .i64 k, .int .i64 a, .int .i64 b]] w fun e w' => e = .returned (.string (txt (deedT ⟨k, a, b⟩))) ∧ Below w.heap.size w w' := by
 have HE := Lib.hid (deedT_other (a := a) (b := b) h)
 have k1 : ¬ k = 1 := by omega
 have k2 : ¬ k = 2 := by omega
 have k3 : ¬ k = 3 := by omega
 have k4 : ¬ k = 4 := by omega
 have k0 : ¬ k = 0 := by omega
 have k0f : (k == 0) = false := by simp [k0]
 have k1f : (k == 1) = false := by simp [k1]
 have k2f : (k == 2) = false := by simp [k2]
 have k3f : (k == 3) = false := by simp [k3]
 have k4f : (k == 4) = false := by simp [k4]
 clear h
 go_enter Tryz.func78, Tryz.ntmps78
 go_wp2
 go_ret
 exact ⟨by rw [HE.out]; rfl, by exact zb⟩
theorem specText_any (k a b : Int) (w : World) : Calls Tryz.prog 78 #[.agg #[.int .i64 k, .int .i64 a, .int .i64 b]] w fun e w' => e = .returned (.string (txt (deedT ⟨k, a, b⟩))) ∧ Below w.heap.size w w' := by
 rcases (show k = 0 ∨ k = 1 ∨ k = 2 ∨ k = 3 ∨ k = 4 ∨ (k < 0 ∨ 4 < k) by omega) with rfl | rfl | rfl | rfl | rfl | h
 · by_cases ha : -9 ≤ a ∧ a ≤ 9
   · by_cases hb : -9 ≤ b ∧ b ≤ 9
     · exact specText_take a b w ha.1 ha.2 hb.1 hb.2
     · exact specText_notB a b w ha hb
   · exact specText_notA a b w ha
 · by_cases h : a = 0 ∧ b = 0
   · obtain ⟨rfl, rfl⟩ := h; exact specText_word1 w
   · exact specText_named1 a b w h
 · by_cases h : a = 0 ∧ b = 0
   · obtain ⟨rfl, rfl⟩ := h; exact specText_word2 w
   · exact specText_named2 a b w h
 · by_cases h : a = 0 ∧ b = 0
   · obtain ⟨rfl, rfl⟩ := h; exact specText_word3 w
   · exact specText_named3 a b w h
 · by_cases h : a = 0 ∧ b = 0
   · obtain ⟨rfl, rfl⟩ := h; exact specText_word4 w
   · exact specText_named4 a b w h
 · exact specText_off k a b w h
end
section
open Go.RowKit
theorem extract_txt (s : ByteArray) (a b : Nat) : s.extract a b = txt ((s.data.toList.drop a).take (b - a)) := by
 refine txt_eq ?_
 rw [Lib.extract_eq]
 rfl
def txtC (W : List (List UInt8)) : List Value := W.map fun l => .string (txt l)
theorem txtC_snoc (W : List (List UInt8)) (l : List UInt8) : txtC W ++ [.string (txt l)] = txtC (W ++ [l]) := by simp [txtC]
theorem txtC_get {W : List (List UInt8)} {i : Nat} (h : i < W.length) : (txtC W)[i]? = some (.string (txt (W.getD i []))) := by simp [txtC, h]
theorem word_sep {w cs : List UInt8} {c : UInt8} (h : c = 32) : wordsN w (c :: cs) = w :: wordsN [] cs := by rw [wordsN, if_pos h]
theorem word_on {w cs : List UInt8} {c : UInt8} (h : ¬ c = 32) : wordsN w (c :: cs) = wordsN (w ++ [c]) cs := by rw [wordsN, if_neg h]
theorem take_more {l : List UInt8} {fr i : Nat} (hf : fr ≤ i) (hi : i < l.length) : (l.drop fr).take (i + 1 - fr) = (l.drop fr).take (i - fr) ++ [l[i]] := by
 rw [show i + 1 - fr = (i - fr) + 1 by omega, List.take_succ_eq_append_getElem (by rw [List.length_drop]; omega), List.getElem_drop]
 congr 3
 omega
theorem words_len (s : List UInt8) : ∀ w, (wordsN w s).length ≤ s.length + 1 := by
 induction s with
 | nil => intro w; simp [wordsN]
 | cons c cs ih =>
   intro w
   unfold wordsN
   split
   · have := ih []; simp only [List.length_cons]; omega
   · have := ih (w ++ [c]); simp only [List.length_cons]; omega
theorem info_txt : (Tryz.prog.info? 9).map (fun i => (i.zero, i.size, i.bytes)) = some (some (.string ⟨#[]⟩), 1, 16) := by kernel_rfl
set_option maxRecDepth 100000 in
set_option maxHeartbeats 4000000 in
theorem cut_any (s : ByteArray) (w : World) (hs : s.size ≤ 2097152) : Calls Tryz.prog 67 #[.string s, .int .u8 32] w fun e w' => ∃ g c, e = .returned (.slice (some ⟨g, 0, none⟩) (wordsN [] s.data.toList).length c) ∧ (w.heap.size ≤ g ∧ g < w'.heap.size) ∧ (∀ i, i < (wordsN [] s.data.toList).length → w'.cell? ⟨g, i, none⟩ = some (.string (txt ((wordsN [] s.data.toList).getD i [])))) ∧ Below w.heap.size w w' := by
 obtain ⟨i0, hi0, hz0, hzs1, hz2⟩ := info_parts info_txt
 have hsl : s.data.toList.length = s.size := bl_size s
 have HSL := Lib.hid hsl
 obtain ⟨l, hl⟩ : ∃ l, s.data.toList = l := ⟨_, rfl⟩
 have HL := Lib.hid hl
 rw [hl] at hsl ⊢
 clear hl
 have HM := Lib.hid (show (w.alloc (.cells #[] 9)).ownsRow w.heap.size 9 1 (.slice (some ⟨w.heap.size, 0, none⟩) 0 0) 0 [] from World.ownsRow_made w #[] 0 (Nat.le_refl _) (by unfold maxLen; omega) rfl)
 go_enter Tryz.func67, Tryz.ntmps67
 go_wp2_with fail
 go_loopw [5, 6, 7] (fun x5 x6 x7 wr => ∃ (i fr : Nat) (W : List (List UInt8)) (a : Option Addr) (c : Nat), x5 = .slice a W.length c ∧ x6 = .int .i64 fr ∧ x7 = .int .i64 i ∧ fr ≤ i ∧ i ≤ s.size ∧ W.length ≤ i ∧ wordsN [] l = W ++ wordsN ((l.drop fr).take (i - fr)) (l.drop i) ∧ wr.ownsRow w.heap.size 9 1 (.slice a W.length c) W.length (txtC W) ∧ w.heap.size < wr.heap.size ∧ Below w.heap.size w wr) (fun _ _ x7 _ => 2097200 - (intOf x7).toNat)
 case atStart => exact ⟨0, 0, [], _, _, rfl, rfl, rfl, by omega, by omega, by simp, by simp, HM.out, by simp, (Below.refl _ _).alloc (Nat.le_refl _) _⟩
 case round =>
   obtain ⟨i, fr, W, a, c, rfl, rfl, rfl, hfr, hi, hWi, hw, hO, hz, hB⟩ := hrel
   have hfi : (fr : Int) ≤ (i : Int) := by omega
   have hi0' : (0 : Int) ≤ (i : Int) := by omega
   have hf0 : (0 : Int) ≤ (fr : Int) := by omega
   have hfs : fr ≤ s.size := by omega
   have hfs' : (fr : Int) ≤ (s.size : Int) := by omega
   have hO' := Lib.hid hO
   have hlk := hO.lt
   by_cases hlt : i < s.size
   · have hki : (i : Int) < (s.size : Int) := by omega
     have his : (i : Int) ≤ (s.size : Int) := by omega
     have hil : i < l.length := by omega
     have hxi : s[i]'hlt = l[i] := by
       have h1 : s.data.toList[i]? = l[i]? := by rw [HL.out]
       have h2 : i < s.data.toList.length := by rw [HSL.out]; exact hlt
       rw [List.getElem?_eq_getElem h2, List.getElem?_eq_getElem hil] at h1
       exact (Array.getElem_toList ..).symm.trans (Option.some.inj h1)
     have hdr : l.drop i = l[i] :: l.drop (i + 1) := List.drop_eq_getElem_cons hil
     have Wi : IntKind.i64.wrap ((i : Int) + 1) = (i : Int) + 1 := by rw [IntKind.wrap_i64]; omega
     have hx8 := (s[i]'hlt).toNat_lt
     by_cases h32 : l[i] = 32
     · have hbt : ((s[i]'hlt).toNat : Int) = 32 := by rw [hxi, h32]; rfl
       have HW := Lib.hid (show wordsN [] l = (W ++ [(l.drop fr).take (i - fr)]) ++ wordsN ((l.drop (i + 1)).take (i + 1 - (i + 1))) (l.drop (i + 1)) by
         rw [hw, hdr, word_sep h32]; simp)
       have hex : s.extract fr i = txt ((l.drop fr).take (i - fr)) := by rw [extract_txt, HL.out]
       clear hw hdr hxi hO HM
       go_wp2_with (at_builtin; refine wpList_append_own _ rfl _ _ 49 rfl w.heap.size 9 i0 (.string ⟨#[]⟩) 1 16 Tryz.underlying49 hi0 hz0 hzs1 hz2 rfl zd _ _ _ rfl (hO'.out.alloc _) ⟨wr.heap.size, 0, none⟩ 1 1 [.string (txt ((l.drop fr).take (i - fr)))] rfl rfl (by exact World.news_of_block (cs := #[.string (txt ((l.drop fr).take (i - fr)))]) (t := 9) (fr := (0, 0)) (heap_alloc_new wr _)) (by simp [Value.oneCell']) (by unfold maxLen; omega) zO (by simp; omega) ?_)
       intro v' w2 hown2 hgrow2 _
       rw [txtC_snoc] at hown2
       have hB2 : Below w.heap.size w w2 := (hB.alloc zO _).grown hgrow2 (by simp; omega) (fun k e => by have := hlk _ e; omega)
       have hz2' := hgrow2.size
       simp at hz2'
       obtain ⟨a2, c2, rfl⟩ := own_shape hown2
       have HO2 := Lib.hid hown2
       clear hown2 hgrow2 hlk
       go_wp2
       go_roundw
       case rel => exact ⟨i + 1, i + 1, W ++ [(l.drop fr).take (i - fr)], a2, c2, by simp, congrArg (Value.int .i64) zO, congrArg (Value.int .i64) zO, by omega, by omega, by simp; omega, HW.out, by simpa using HO2.out, by omega, hB2⟩
       case measure => simp [intOf]; omega
     · have hbt : ¬ ((s[i]'hlt).toNat : Int) = 32 := by
         rw [hxi]
         intro e
         have e' : l[i].toNat = 32 := by omega
         exact h32 (by rw [← UInt8.toNat_inj]; exact e')
       have HW := Lib.hid (show wordsN [] l = W ++ wordsN ((l.drop fr).take (i + 1 - fr)) (l.drop (i + 1)) by
         rw [hw, hdr, word_on h32, take_more hfr hil])
       clear hw hdr hxi hO HM
       go_wp2
       go_roundw
       case rel => exact ⟨i + 1, fr, W, a, c, rfl, rfl, congrArg (Value.int .i64) zO, by omega, by omega, by omega, HW.out, hO'.out, hz, hB⟩
       case measure => simp [intOf]; omega
   · obtain rfl : i = s.size := by omega
     have HW := Lib.hid (show wordsN [] l = W ++ [l.drop fr] by
       rw [hw, List.drop_eq_nil_of_le (by omega : l.length ≤ s.size), List.take_of_length_le (by rw [List.length_drop]; omega)]; rfl)
     have hex : s.extract fr s.size = txt (l.drop fr) := by
       rw [extract_txt, HL.out, List.take_of_length_le (by rw [List.length_drop]; omega)]
     clear hw hO HM
     go_wp2_with (at_builtin; refine wpList_append_own _ rfl _ _ 49 rfl w.heap.size 9 i0 (.string ⟨#[]⟩) 1 16 Tryz.underlying49 hi0 hz0 hzs1 hz2 rfl zd _ _ _ rfl (hO'.out.alloc _) ⟨wr.heap.size, 0, none⟩ 1 1 [.string (txt (l.drop fr))] rfl rfl (by exact World.news_of_block (cs := #[.string (txt (l.drop fr))]) (t := 9) (fr := (0, 0)) (heap_alloc_new wr _)) (by simp [Value.oneCell']) (by unfold maxLen; omega) zO (by simp; omega) ?_)
     intro v' w2 hown2 hgrow2 _
     rw [txtC_snoc, ← HW.out] at hown2
     have hB2 : Below w.heap.size w w2 := (hB.alloc zO _).grown hgrow2 (by simp; omega) (fun k e => by have := hlk _ e; omega)
     have hln : (wordsN [] l).length = W.length + 1 := by rw [HW.out]; simp
     obtain ⟨a2, c2, rfl⟩ := own_shape hown2
     obtain ⟨g, hg⟩ : ∃ g, a2 = some ⟨g, 0, none⟩ := by
       obtain ⟨g, cap', hv, _⟩ := hown2.form zO
       injection hv with h1
       exact ⟨g, h1⟩
     subst hg
     have hg2 := hown2.lt g rfl
     have hcl := hown2.cells (g := g) rfl
     have HC := Lib.hid hcl
     have HB2 := Lib.hid hB2
     have HLN := Lib.hid hln
     clear hown2 hgrow2 hlk hcl hB2 hln hB
     go_wp2
     go_ret
     refine ⟨g, c2, by rw [HLN.out]; rfl, ⟨hg2.1, hg2.2⟩, fun j hj => ?_, HB2.out⟩
     have := HC.out j _ (txtC_get hj)
     rwa [add_row, Nat.zero_add] at this
end
section
open Go.RowKit
theorem deedWords_ex (w : World) : Calls Tryz.prog 53 #[] w fun e w' => ∃ g, e = .returned (.slice (some ⟨g, 0, none⟩) 5 5) ∧ (w.heap.size ≤ g ∧ g < w'.heap.size) ∧ (w'.cell? ⟨g, 0, none⟩ = some (.string ⟨#[116, 97, 107, 101]⟩) ∧ w'.cell? ⟨g, 1, none⟩ = some (.string ⟨#[116, 117, 114, 110]⟩) ∧ w'.cell? ⟨g, 2, none⟩ = some (.string ⟨#[117, 112]⟩) ∧ w'.cell? ⟨g, 3, none⟩ = some (.string ⟨#[100, 111, 119, 110]⟩) ∧ w'.cell? ⟨g, 4, none⟩ = some (.string ⟨#[98, 97, 99, 107]⟩)) ∧ Below w.heap.size w w' := by
 refine (deedWords_at w).mono ?_
 rintro e w' ⟨rfl, rfl⟩
 exact ⟨_, rfl, ⟨Nat.le_refl _, by simp⟩, ⟨World.cell?_alloc_mark _ _ _ _ _, World.cell?_alloc_mark _ _ _ _ _, World.cell?_alloc_mark _ _ _ _ _, World.cell?_alloc_mark _ _ _ _ _, World.cell?_alloc_mark _ _ _ _ _⟩, (Below.refl _ _).alloc (Nat.le_refl _) _⟩
theorem words_five {w : World} {g : Nat} (h0 : w.cell? ⟨g, 0, none⟩ = some (.string ⟨#[116, 97, 107, 101]⟩)) (h1 : w.cell? ⟨g, 1, none⟩ = some (.string ⟨#[116, 117, 114, 110]⟩)) (h2 : w.cell? ⟨g, 2, none⟩ = some (.string ⟨#[117, 112]⟩)) (h3 : w.cell? ⟨g, 3, none⟩ = some (.string ⟨#[100, 111, 119, 110]⟩)) (h4 : w.cell? ⟨g, 4, none⟩ = some (.string ⟨#[98, 97, 99, 107]⟩)) : ∀ j, j < 5 → w.cell? ⟨g, j, none⟩ = some (.string (deedWs.getD j ByteArray.empty)) := by
 intro j hj
 rcases (show j = 0 ∨ j = 1 ∨ j = 2 ∨ j = 3 ∨ j = 4 by omega) with rfl | rfl | rfl | rfl | rfl
 · exact h0
 · exact h1
 · exact h2
 · exact h3
 · exact h4
theorem kind_low (x : ByteArray) : -1 ≤ Lib.idxOfS deedWs x ∧ Lib.idxOfS deedWs x ≤ 4 := by
 have h : ∀ (L : List ByteArray) (i : Nat), -1 ≤ Lib.idxFromS L x i ∧ Lib.idxFromS L x i ≤ (i + L.length : Nat) - 1 ∨ Lib.idxFromS L x i = -1 := by
   intro L
   induction L with
   | nil => intro i; exact .inr rfl
   | cons z L ih =>
     intro i
     unfold Lib.idxFromS
     split
     · left; simp; omega
     · have := ih (i + 1); simp only [List.length_cons]; omega
 have := h deedWs 0
 have e : deedWs.length = 5 := rfl
 unfold Lib.idxOfS
 omega
theorem readOf_cand {s : ByteArray} {c : DeedN} (hc : candI s = c) : deedV s.data.toList = if deedT c ≠ [] ∧ deedT c = s.data.toList then (c, true) else (⟨0, 0, 0⟩, false) := by
 rw [deedV_cand, hc]
theorem extract_size (s : ByteArray) (a b : Nat) : (s.extract a b).size ≤ s.size := by simp [ByteArray.size_extract]; omega
theorem piece_sizes (s : ByteArray) : ∀ (k : Nat) (x : ByteArray), x.size ≤ s.size → ∀ y ∈ Lib.splitB (txt [32]) 0 k x, y.size ≤ s.size := by
 intro k
 induction k with
 | zero => intro x hx y hy; simp [Lib.splitB] at hy; subst hy; exact hx
 | succ k ih =>
   intro x hx y hy
   unfold Lib.splitB at hy
   split at hy
   · simp at hy; subst hy; exact hx
   · rcases List.mem_cons.1 hy with rfl | hy
     · exact Nat.le_trans (extract_size _ _ _) hx
     · exact ih _ (Nat.le_trans (extract_size _ _ _) hx) y hy
theorem piece_size (s : ByteArray) (n i : Nat) : ((piecesB n s).getD i ByteArray.empty).size ≤ s.size := by
 rcases Nat.lt_or_ge i (piecesB n s).length with h | h
 · have := piece_sizes s _ s (Nat.le_refl _) ((piecesB n s).getD i ByteArray.empty) (by rw [List.getD_eq_getElem?_getD, List.getElem?_eq_getElem h]; exact List.getElem_mem h)
   exact this
 · rw [List.getD_eq_getElem?_getD, List.getElem?_eq_none h]; exact Nat.zero_le _
set_option maxRecDepth 100000 in
set_option maxHeartbeats 4000000 in
theorem implDeedRead_any (s : ByteArray) (w : World) (hs : s.size ≤ 2097152) (ht : PowTab w) (he : Errs w) : Calls Tryz.prog 44 #[.string s] w fun e w' => e = .returned (.tuple #[.agg #[.int .i64 (deedV s.data.toList).1.kind, .int .i64 (deedV s.data.toList).1.a, .int .i64 (deedV s.data.toList).1.b], .bool (deedV s.data.toList).2]) ∧ Below w.heap.size w w' := by
 have HT := Lib.hid ht
 have HE := Lib.hid he
 have hsem : s.toList.isEmpty = s.data.toList.isEmpty := by rw [bl_toList]
 have HSEQ := Lib.hid (fun t : ByteArray => bl_eq t s)
 obtain ⟨hpl1, hpl2⟩ := pieces_len 3 s zd
 have hps := fun i => piece_size s 3 i
 have hsp := fun W => splitN_at s 3 W hs zd zd
 have hcd : ∀ c, candI s = c → _ := fun c hc => readOf_cand hc
 obtain ⟨L, hL⟩ : ∃ L, piecesB 3 s = L := ⟨_, rfl⟩
 have HCI := Lib.hid (show candI s = if Lib.idxOfS deedWs (L.getD 0 ByteArray.empty) = 0 ∧ L.length = 3 then ⟨0, atoiV (L.getD 1 ByteArray.empty).data.toList, atoiV (L.getD 2 ByteArray.empty).data.toList⟩ else ⟨Lib.idxOfS deedWs (L.getD 0 ByteArray.empty), 0, 0⟩ by rw [candI, hL])
 rw [hL] at hpl1 hpl2 hps hsp
 obtain ⟨n, hn⟩ : ∃ n, L.length = n := ⟨_, rfl⟩
 obtain ⟨p0, hp0⟩ : ∃ p0, L.getD 0 ByteArray.empty = p0 := ⟨_, rfl⟩
 obtain ⟨p1, hp1⟩ : ∃ p1, L.getD 1 ByteArray.empty = p1 := ⟨_, rfl⟩
 obtain ⟨p2, hp2⟩ : ∃ p2, L.getD 2 ByteArray.empty = p2 := ⟨_, rfl⟩
 have hps1 := hps 1
 have hps2 := hps 2
 rw [hp1] at hps1
 rw [hp2] at hps2
 rw [hn] at hpl1 hpl2
 rw [hp0, hp1, hp2, hn] at HCI
 obtain ⟨kl, kh⟩ := kind_low p0
 obtain ⟨kd, hkd⟩ : ∃ kd, Lib.idxOfS deedWs p0 = kd := ⟨_, rfl⟩
 rw [hkd] at HCI kl kh
 have HKD := Lib.hid hkd
 have HSP := Lib.hid hsp
 have HCD := Lib.hid hcd
 clear hsp hcd hps hkd ht he hL
 go_enter Tryz.func44, Tryz.ntmps44
 go_wp2_with fail
 refine (HSP.out _).mono ?_
 rintro e w1 ⟨c1, rfl, ⟨hc1', hw1'⟩, hcell, hb1⟩
 rw [hn] at hcell hc1' ⊢
 obtain ⟨hc1, hf1⟩ := bcell hb1
 have r0 : w1.cell? ⟨w.heap.size, 0, none⟩ = some (.int .i64 0) := by go_simp
 have fr0 : w1.frozen? ⟨w.heap.size, 0, none⟩ = false := by go_simp
 have r1 : w1.cell? ⟨w.heap.size, 1, none⟩ = some (.int .i64 0) := by go_simp
 have fr1 : w1.frozen? ⟨w.heap.size, 1, none⟩ = false := by go_simp
 have r2 : w1.cell? ⟨w.heap.size, 2, none⟩ = some (.int .i64 0) := by go_simp
 have fr2 : w1.frozen? ⟨w.heap.size, 2, none⟩ = false := by go_simp
 simp only [World.size_alloc] at hcell hw1' hb1 ⊢
 have q0 : w1.cell? ⟨w.heap.size + 1, 0, none⟩ = some (.string p0) := by rw [← hp0]; exact hcell 0 zO
 have q1 : 1 < n → w1.cell? ⟨w.heap.size + 1, 1, none⟩ = some (.string p1) := fun h => by rw [← hp1]; exact hcell 1 h
 have q2 : 2 < n → w1.cell? ⟨w.heap.size + 1, 2, none⟩ = some (.string p2) := fun h => by rw [← hp2]; exact hcell 2 h
 obtain ⟨pb, hpb⟩ : ∃ pb, w.heap.size + 1 = pb := ⟨_, rfl⟩
 rw [hpb] at q0 q1 q2 hw1' hb1 ⊢
 have hws : w.heap.size < w1.heap.size := by omega
 have hB1 : Below w.heap.size w w1 := ((Below.refl _ _).alloc (Nat.le_refl _) _).trans (hb1.mono zO)
 have HT1 := Lib.hid (HT.out.below hB1 (Nat.le_refl _))
 have HE1 := Lib.hid (HE.out.below hB1 (Nat.le_refl _))
 have hn0 : 0 < n := by omega
 have hn0' : (0 : Int) < (n : Int) := by omega
 have hnc : n ≤ 3 := by omega
 have HB1 := Lib.hid hB1
 have HQ1 := Lib.hid q1
 have HQ2 := Lib.hid q2
 clear hc1 hf1 hcell hb1 hp0 hp1 hp2 hn q1 q2 hB1 hpl1 hpl2 HT HE
 go_wp2_with fail
 go_cut [5] from 9 (fun s5 wx => ∃ b, s5 = .pointer (some ⟨b, 0, none⟩) ∧ (w1.heap.size ≤ b ∧ b < wx.heap.size) ∧ (wx.cell? ⟨b, 0, none⟩ = some (.int .i64 kd) ∧ wx.cell? ⟨b, 1, none⟩ = some (.int .i64 0) ∧ wx.cell? ⟨b, 2, none⟩ = some (.int .i64 0)) ∧ (wx.frozen? ⟨b, 0, none⟩ = false ∧ wx.frozen? ⟨b, 1, none⟩ = false ∧ wx.frozen? ⟨b, 2, none⟩ = false) ∧ Below w1.heap.size w1 wx)
 case first =>
   go_region_held3 (fun W_ => W_.cell? ⟨pb, 0, none⟩ = some (.string p0))
     ((go_split_ands; (repeat (first | with_reducible assumption | with_reducible refine cell_alloc_is _ ?_ | with_reducible refine cell_drew_is ?_ | with_reducible refine cell_set_is ?_ ?_ | omega)); done))
     ((first | (go_at_call 53; refine (deedWords_ex _).mono ?_; rintro e w_2 ⟨g2, rfl, ⟨hg2a, hg2b⟩, ⟨m0, m1, m2, m3, m4⟩, hb_2⟩; obtain ⟨hc_2, hf_2⟩ := bcell hb_2; have hz_2 := hb_2.size; (try simp at hz_2); (try simp at hg2a); (have hq_2 : w1.heap.size < w_2.heap.size := by omega); have kx0 := (hb_2.cell (p := ⟨pb, 0, none⟩) zo).trans (show _ = some (.string p0) by (repeat (first | with_reducible assumption | with_reducible refine cell_alloc_is _ ?_ | with_reducible refine cell_drew_is ?_ | with_reducible refine cell_set_is ?_ ?_ | omega)))) | (go_at_call 81; refine (kindOf_at g2 p0 _ (words_five (by (repeat (first | with_reducible assumption | with_reducible refine cell_alloc_is _ ?_ | with_reducible refine cell_drew_is ?_ | with_reducible refine cell_set_is ?_ ?_ | omega))) (by (repeat (first | with_reducible assumption | with_reducible refine cell_alloc_is _ ?_ | with_reducible refine cell_drew_is ?_ | with_reducible refine cell_set_is ?_ ?_ | omega))) (by (repeat (first | with_reducible assumption | with_reducible refine cell_alloc_is _ ?_ | with_reducible refine cell_drew_is ?_ | with_reducible refine cell_set_is ?_ ?_ | omega))) (by (repeat (first | with_reducible assumption | with_reducible refine cell_alloc_is _ ?_ | with_reducible refine cell_drew_is ?_ | with_reducible refine cell_set_is ?_ ?_ | omega))) (by (repeat (first | with_reducible assumption | with_reducible refine cell_alloc_is _ ?_ | with_reducible refine cell_drew_is ?_ | with_reducible refine cell_set_is ?_ ?_ | omega))))).mono ?_; rintro e w_4 ⟨rfl, hw_4⟩; subst hw_4) | fail))
   all_goals (go_wp2_with fail; go_meet)
   all_goals
     case rel =>
       rw [HKD.out]
       refine ⟨_, rfl, ⟨?_, ?_⟩, ⟨?_, ?_, ?_⟩, ⟨?_, ?_, ?_⟩, ?_⟩
       · first | omega | (simp <;> omega)
       · first | omega | (simp <;> omega)
       · go_simp
       · go_simp
       · go_simp
       · go_simp
       · go_simp
       · go_simp
       · exact zb
 obtain ⟨b, rfl, ⟨hb0, hb0'⟩, ⟨d0, d1, d2⟩, ⟨e0, e1, e2⟩, hB5⟩ := hcut
 rename World => w5
 have HB5 := Lib.hid hB5
 have hz5 := hB5.size
 have t0 : w5.cell? ⟨w.heap.size, 0, none⟩ = some (.int .i64 0) := (hB5.cell (p := ⟨w.heap.size, 0, none⟩) (by show w.heap.size < _; omega)).trans r0
 have ft0 : w5.frozen? ⟨w.heap.size, 0, none⟩ = false := (hB5.frozen (p := ⟨w.heap.size, 0, none⟩) (by show w.heap.size < _; omega)).trans fr0
 have t1 : w5.cell? ⟨w.heap.size, 1, none⟩ = some (.int .i64 0) := (hB5.cell (p := ⟨w.heap.size, 1, none⟩) (by show w.heap.size < _; omega)).trans r1
 have ft1 : w5.frozen? ⟨w.heap.size, 1, none⟩ = false := (hB5.frozen (p := ⟨w.heap.size, 1, none⟩) (by show w.heap.size < _; omega)).trans fr1
 have t2 : w5.cell? ⟨w.heap.size, 2, none⟩ = some (.int .i64 0) := (hB5.cell (p := ⟨w.heap.size, 2, none⟩) (by show w.heap.size < _; omega)).trans r2
 have ft2 : w5.frozen? ⟨w.heap.size, 2, none⟩ = false := (hB5.frozen (p := ⟨w.heap.size, 2, none⟩) (by show w.heap.size < _; omega)).trans fr2
 have hQ1 : 1 < n → w5.cell? ⟨pb, 1, none⟩ = some (.string p1) := fun h => (hB5.cell (p := ⟨pb, 1, none⟩) (by show pb < _; omega)).trans (HQ1.out h)
 have hQ2 : 2 < n → w5.cell? ⟨pb, 2, none⟩ = some (.string p2) := fun h => (hB5.cell (p := ⟨pb, 2, none⟩) (by show pb < _; omega)).trans (HQ2.out h)
 have HQ1' := Lib.hid hQ1
 have HQ2' := Lib.hid hQ2
 clear hB5 HQ1 HQ2 hQ1 hQ2 r0 r1 r2 fr0 fr1 fr2 q0
 have hB5r : Below w1.heap.size w1 w5 := HB5.out
 by_cases hyes : kd = 0 ∧ n = 3
 · obtain ⟨rfl, rfl⟩ := hyes
   rw [if_pos ⟨rfl, rfl⟩] at HCI
   have q1 := HQ1'.out zd
   have q2 := HQ2'.out zd
   go_wp2_with fail
   refine (atoi_any p1 zO _ (HE1.out.below HB5.out (Nat.le_refl _))).mono ?_
   rintro e w6 ⟨x1, rfl, _, hb6⟩
   obtain ⟨hc6, hf6⟩ := bcell hb6
   have hz6 := hb6.size
   have k0 : w6.cell? ⟨b, 0, none⟩ = some (.int .i64 0) := by go_simp
   have k1 : w6.cell? ⟨b, 1, none⟩ = some (.int .i64 0) := by go_simp
   have k2 : w6.cell? ⟨b, 2, none⟩ = some (.int .i64 0) := by go_simp
   have g0 : w6.frozen? ⟨b, 0, none⟩ = false := by go_simp
   have g1 : w6.frozen? ⟨b, 1, none⟩ = false := by go_simp
   have g2 : w6.frozen? ⟨b, 2, none⟩ = false := by go_simp
   have hpb5 : pb < w5.heap.size := by omega
   have q2' : w6.cell? ⟨pb, 2, none⟩ = some (.string p2) := by go_simp
   have hw5 : w.heap.size < w5.heap.size := by omega
   have u0 : w6.cell? ⟨w.heap.size, 0, none⟩ = some (.int .i64 0) := by go_simp
   have fu0 : w6.frozen? ⟨w.heap.size, 0, none⟩ = false := by go_simp
   have u1 : w6.cell? ⟨w.heap.size, 1, none⟩ = some (.int .i64 0) := by go_simp
   have fu1 : w6.frozen? ⟨w.heap.size, 1, none⟩ = false := by go_simp
   have u2 : w6.cell? ⟨w.heap.size, 2, none⟩ = some (.int .i64 0) := by go_simp
   have fu2 : w6.frozen? ⟨w.heap.size, 2, none⟩ = false := by go_simp
   have HB6 := Lib.hid (HB5.out.trans (hb6.mono zO))
   have hpb6 : ¬ pb = b := by omega
   have hpb6' : ¬ b = pb := by omega
   have hbw : ¬ b = w.heap.size := by omega
   have hbw' : ¬ w.heap.size = b := by omega
   have hb6b : b < w6.heap.size := by omega
   clear hc6 hf6 hb6 d0 d1 d2 e0 e1 e2 q1 q2 t0 t1 t2 ft0 ft1 ft2
   go_wp2_with fail
   refine calls_namedD ?_
   intro w7 hw7
   have hB7 : Below w1.heap.size w1 w7 := by rw [hw7]; exact HB6.out.setCell (p := ⟨b, 1, none⟩) hb0 _
   have hz7 : w7.heap.size = w6.heap.size := by rw [hw7]; simp [World.setCell]
   have m0 : w7.cell? ⟨b, 0, none⟩ = some (.int .i64 0) := by rw [hw7]; go_simp
   have m1 : w7.cell? ⟨b, 1, none⟩ = some (.int .i64 (atoiV p1.data.toList)) := by rw [hw7]; go_simp
   have m2 : w7.cell? ⟨b, 2, none⟩ = some (.int .i64 0) := by rw [hw7]; go_simp
   have o0 : w7.frozen? ⟨b, 0, none⟩ = false := by rw [hw7]; go_simp
   have o1 : w7.frozen? ⟨b, 1, none⟩ = false := by rw [hw7]; go_simp
   have o2 : w7.frozen? ⟨b, 2, none⟩ = false := by rw [hw7]; go_simp
   have v0 : w7.cell? ⟨w.heap.size, 0, none⟩ = some (.int .i64 0) := by rw [hw7]; go_simp
   have fv0 : w7.frozen? ⟨w.heap.size, 0, none⟩ = false := by rw [hw7]; go_simp
   have v1 : w7.cell? ⟨w.heap.size, 1, none⟩ = some (.int .i64 0) := by rw [hw7]; go_simp
   have fv1 : w7.frozen? ⟨w.heap.size, 1, none⟩ = false := by rw [hw7]; go_simp
   have v2 : w7.cell? ⟨w.heap.size, 2, none⟩ = some (.int .i64 0) := by rw [hw7]; go_simp
   have fv2 : w7.frozen? ⟨w.heap.size, 2, none⟩ = false := by rw [hw7]; go_simp
   have HB7 := Lib.hid hB7
   have hb7b : b < w7.heap.size := by omega
   have hw7w : w.heap.size < w7.heap.size := by omega
   have hz17 : w1.heap.size ≤ w7.heap.size := HB7.out.size
   clear hz7
   clear hw7 hB7 k0 k1 k2 g0 g1 g2 u0 u1 u2 fu0 fu1 fu2 q2'
   refine (atoi_any p2 zO _ (HE1.out.below HB7.out (Nat.le_refl _))).mono ?_
   rintro e w8 ⟨x2, rfl, _, hb8⟩
   obtain ⟨hc8, hf8⟩ := bcell hb8
   have hz8 := hb8.size
   have k0 : w8.cell? ⟨b, 0, none⟩ = some (.int .i64 0) := by go_simp
   have k1 : w8.cell? ⟨b, 1, none⟩ = some (.int .i64 (atoiV p1.data.toList)) := by go_simp
   have k2 : w8.cell? ⟨b, 2, none⟩ = some (.int .i64 0) := by go_simp
   have g0 : w8.frozen? ⟨b, 0, none⟩ = false := by go_simp
   have g1 : w8.frozen? ⟨b, 1, none⟩ = false := by go_simp
   have g2 : w8.frozen? ⟨b, 2, none⟩ = false := by go_simp
   have y0 : w8.cell? ⟨w.heap.size, 0, none⟩ = some (.int .i64 0) := by go_simp
   have fy0 : w8.frozen? ⟨w.heap.size, 0, none⟩ = false := by go_simp
   have y1 : w8.cell? ⟨w.heap.size, 1, none⟩ = some (.int .i64 0) := by go_simp
   have fy1 : w8.frozen? ⟨w.heap.size, 1, none⟩ = false := by go_simp
   have y2 : w8.cell? ⟨w.heap.size, 2, none⟩ = some (.int .i64 0) := by go_simp
   have fy2 : w8.frozen? ⟨w.heap.size, 2, none⟩ = false := by go_simp
   have HB8 := Lib.hid (HB7.out.trans (hb8.mono zO))
   have hb8b : b < w8.heap.size := by omega
   clear hc8 hf8 hb8 m0 m1 m2 o0 o1 o2 v0 v1 v2 fv0 fv1 fv2
   go_wp2_with fail
   refine calls_namedD ?_
   intro w10 hw10
   have hB10 : Below w1.heap.size w1 w10 := by rw [hw10]; exact HB8.out.setCell (p := ⟨b, 2, none⟩) hb0 _
   have hz10 := hB10.size
   have i0 : w10.cell? ⟨b, 0, none⟩ = some (.int .i64 (0)) := by rw [hw10]; go_simp
   have i1 : w10.cell? ⟨b, 1, none⟩ = some (.int .i64 (atoiV p1.data.toList)) := by rw [hw10]; go_simp
   have i2 : w10.cell? ⟨b, 2, none⟩ = some (.int .i64 (atoiV p2.data.toList)) := by rw [hw10]; go_simp
   have hb10 : b < w10.heap.size := by rw [hw10]; first | exact hb0' | (simp [World.setCell]; omega)
   have z0 : w10.cell? ⟨w.heap.size, 0, none⟩ = some (.int .i64 0) := by rw [hw10]; go_simp
   have fz0 : w10.frozen? ⟨w.heap.size, 0, none⟩ = false := by rw [hw10]; go_simp
   have z1 : w10.cell? ⟨w.heap.size, 1, none⟩ = some (.int .i64 0) := by rw [hw10]; go_simp
   have fz1 : w10.frozen? ⟨w.heap.size, 1, none⟩ = false := by rw [hw10]; go_simp
   have z2 : w10.cell? ⟨w.heap.size, 2, none⟩ = some (.int .i64 0) := by rw [hw10]; go_simp
   have fz2 : w10.frozen? ⟨w.heap.size, 2, none⟩ = false := by rw [hw10]; go_simp
   have HB10 := Lib.hid hB10
   clear hw10 hB10
   have hc : candI s = ⟨0, atoiV p1.data.toList, atoiV p2.data.toList⟩ := HCI.out
   have hV := readOf_cand hc
   have HV := Lib.hid hV
   have hq := HSEQ.out (txt (deedT ⟨0, atoiV p1.data.toList, atoiV p2.data.toList⟩))
   have hqe : (txt (deedT ⟨0, atoiV p1.data.toList, atoiV p2.data.toList⟩)).toList.isEmpty = (deedT ⟨0, atoiV p1.data.toList, atoiV p2.data.toList⟩).isEmpty := by rw [bl_toList]; rfl
   rw [txt_list] at hq
   obtain ⟨Tx, hTx⟩ : ∃ Tx, txt (deedT ⟨0, atoiV p1.data.toList, atoiV p2.data.toList⟩) = Tx := ⟨_, rfl⟩
   have hdt := fun W hW => implText_any (0) (atoiV p1.data.toList) (atoiV p2.data.toList) W hW
   rw [hTx] at hq hqe hdt
   have HDT := Lib.hid hdt
   have hww : w.heap.size < w10.heap.size := by omega
   clear hc hV hTx hdt HCI HCD
   refine (HDT.out _ (HT1.out.below HB10.out (Nat.le_refl _))).mono ?_
   rintro e w9 ⟨rfl, hb9⟩
   obtain ⟨hc9, hf9⟩ := bcell hb9
   have hz9 := hb9.size
   have l0 : w9.cell? ⟨b, 0, none⟩ = some (.int .i64 (0)) := by go_simp
   have l1 : w9.cell? ⟨b, 1, none⟩ = some (.int .i64 (atoiV p1.data.toList)) := by go_simp
   have l2 : w9.cell? ⟨b, 2, none⟩ = some (.int .i64 (atoiV p2.data.toList)) := by go_simp
   have j0 : w9.cell? ⟨w.heap.size, 0, none⟩ = some (.int .i64 0) := by go_simp
   have fj0 : w9.frozen? ⟨w.heap.size, 0, none⟩ = false := by go_simp
   have j1 : w9.cell? ⟨w.heap.size, 1, none⟩ = some (.int .i64 0) := by go_simp
   have fj1 : w9.frozen? ⟨w.heap.size, 1, none⟩ = false := by go_simp
   have j2 : w9.cell? ⟨w.heap.size, 2, none⟩ = some (.int .i64 0) := by go_simp
   have fj2 : w9.frozen? ⟨w.heap.size, 2, none⟩ = false := by go_simp
   have HB9 := Lib.hid (HB10.out.trans (hb9.mono zO))
   have hbw9 : w.heap.size < w9.heap.size := by omega
   clear hc9 hf9 hb9 i0 i1 i2 z0 z1 z2 fz0 fz1 fz2
   have HBf := Lib.hid (show Below w.heap.size w w9 from HB1.out.trans (HB9.out.mono zO))
   by_cases hem : deedT ⟨0, atoiV p1.data.toList, atoiV p2.data.toList⟩ = []
   · have hqe' : Tx.toList.isEmpty = true := by rw [hqe, hem]; rfl
     rw [if_neg (fun e => e.1 hem)] at HV
     clear hq hqe hem hsem
     go_wp2
     refine bodyPost_ret (v := .tuple #[.agg #[.int .i64 0, .int .i64 0, .int .i64 0], .bool false]) (by simp [results, Tryz.results44, go_sem]; go_simp) rfl ⟨by rw [HV.out], ?_⟩
     exact ((HBf.out.setCell (p := ⟨w.heap.size, 0, none⟩) (Nat.le_refl _) _).setCell (p := ⟨w.heap.size, 1, none⟩) (Nat.le_refl _) _).setCell (p := ⟨w.heap.size, 2, none⟩) (Nat.le_refl _) _
   · have hqe' : Tx.toList.isEmpty = false := by
       rw [hqe]
       cases hd : deedT ⟨0, atoiV p1.data.toList, atoiV p2.data.toList⟩ with
       | nil => exact absurd hd hem
       | cons _ _ => rfl
     by_cases hd : deedT ⟨0, atoiV p1.data.toList, atoiV p2.data.toList⟩ = s.data.toList
     · have hq' : (Tx.toList == s.toList) = true := by rw [hq, hd]; simp
       rw [if_pos ⟨hem, hd⟩] at HV
       clear hq hqe hem hd hsem
       go_wp2
       refine bodyPost_ret (v := .tuple #[.agg #[.int .i64 (0), .int .i64 (atoiV p1.data.toList), .int .i64 (atoiV p2.data.toList)], .bool true]) (by simp [results, Tryz.results44, go_sem]; go_simp) rfl ⟨by rw [HV.out], ?_⟩
       exact ((HBf.out.setCell (p := ⟨w.heap.size, 0, none⟩) (Nat.le_refl _) _).setCell (p := ⟨w.heap.size, 1, none⟩) (Nat.le_refl _) _).setCell (p := ⟨w.heap.size, 2, none⟩) (Nat.le_refl _) _
     · have hq' : (Tx.toList == s.toList) = false := by rw [hq]; exact beq_eq_false_iff_ne.2 hd
       rw [if_neg (fun e => hd e.2)] at HV
       clear hq hqe hem hd hsem
       go_wp2
       refine bodyPost_ret (v := .tuple #[.agg #[.int .i64 0, .int .i64 0, .int .i64 0], .bool false]) (by simp [results, Tryz.results44, go_sem]; go_simp) rfl ⟨by rw [HV.out], ?_⟩
       exact ((HBf.out.setCell (p := ⟨w.heap.size, 0, none⟩) (Nat.le_refl _) _).setCell (p := ⟨w.heap.size, 1, none⟩) (Nat.le_refl _) _).setCell (p := ⟨w.heap.size, 2, none⟩) (Nat.le_refl _) _
 · rw [if_neg hyes] at HCI
   by_cases hk : kd = 0
   · have hn3 : ¬ n = 3 := fun e => hyes ⟨hk, e⟩
     have hn3' : ¬ ((n : Int) = 3) := by omega
     subst hk
     clear hyes
     go_wp2_with fail
     refine calls_namedD ?_
     intro w10 hw10
     have hB10 : Below w1.heap.size w1 w10 := by rw [hw10]; exact hB5r
     have hz10 := hB10.size
     have i0 : w10.cell? ⟨b, 0, none⟩ = some (.int .i64 (0)) := by rw [hw10]; go_simp
     have i1 : w10.cell? ⟨b, 1, none⟩ = some (.int .i64 (0)) := by rw [hw10]; go_simp
     have i2 : w10.cell? ⟨b, 2, none⟩ = some (.int .i64 (0)) := by rw [hw10]; go_simp
     have hb10 : b < w10.heap.size := by rw [hw10]; first | exact hb0' | (simp [World.setCell]; omega)
     have z0 : w10.cell? ⟨w.heap.size, 0, none⟩ = some (.int .i64 0) := by rw [hw10]; go_simp
     have fz0 : w10.frozen? ⟨w.heap.size, 0, none⟩ = false := by rw [hw10]; go_simp
     have z1 : w10.cell? ⟨w.heap.size, 1, none⟩ = some (.int .i64 0) := by rw [hw10]; go_simp
     have fz1 : w10.frozen? ⟨w.heap.size, 1, none⟩ = false := by rw [hw10]; go_simp
     have z2 : w10.cell? ⟨w.heap.size, 2, none⟩ = some (.int .i64 0) := by rw [hw10]; go_simp
     have fz2 : w10.frozen? ⟨w.heap.size, 2, none⟩ = false := by rw [hw10]; go_simp
     have HB10 := Lib.hid hB10
     clear hw10 hB10
     have hc : candI s = ⟨0, 0, 0⟩ := HCI.out
     have hV := readOf_cand hc
     have HV := Lib.hid hV
     have hq := HSEQ.out (txt (deedT ⟨0, 0, 0⟩))
     have hqe : (txt (deedT ⟨0, 0, 0⟩)).toList.isEmpty = (deedT ⟨0, 0, 0⟩).isEmpty := by rw [bl_toList]; rfl
     rw [txt_list] at hq
     obtain ⟨Tx, hTx⟩ : ∃ Tx, txt (deedT ⟨0, 0, 0⟩) = Tx := ⟨_, rfl⟩
     have hdt := fun W hW => implText_any (0) (0) (0) W hW
     rw [hTx] at hq hqe hdt
     have HDT := Lib.hid hdt
     have hww : w.heap.size < w10.heap.size := by omega
     clear hc hV hTx hdt HCI HCD
     refine (HDT.out _ (HT1.out.below HB10.out (Nat.le_refl _))).mono ?_
     rintro e w9 ⟨rfl, hb9⟩
     obtain ⟨hc9, hf9⟩ := bcell hb9
     have hz9 := hb9.size
     have l0 : w9.cell? ⟨b, 0, none⟩ = some (.int .i64 (0)) := by go_simp
     have l1 : w9.cell? ⟨b, 1, none⟩ = some (.int .i64 (0)) := by go_simp
     have l2 : w9.cell? ⟨b, 2, none⟩ = some (.int .i64 (0)) := by go_simp
     have j0 : w9.cell? ⟨w.heap.size, 0, none⟩ = some (.int .i64 0) := by go_simp
     have fj0 : w9.frozen? ⟨w.heap.size, 0, none⟩ = false := by go_simp
     have j1 : w9.cell? ⟨w.heap.size, 1, none⟩ = some (.int .i64 0) := by go_simp
     have fj1 : w9.frozen? ⟨w.heap.size, 1, none⟩ = false := by go_simp
     have j2 : w9.cell? ⟨w.heap.size, 2, none⟩ = some (.int .i64 0) := by go_simp
     have fj2 : w9.frozen? ⟨w.heap.size, 2, none⟩ = false := by go_simp
     have HB9 := Lib.hid (HB10.out.trans (hb9.mono zO))
     have hbw9 : w.heap.size < w9.heap.size := by omega
     clear hc9 hf9 hb9 i0 i1 i2 z0 z1 z2 fz0 fz1 fz2
     have HBf := Lib.hid (show Below w.heap.size w w9 from HB1.out.trans (HB9.out.mono zO))
     by_cases hem : deedT ⟨0, 0, 0⟩ = []
     · have hqe' : Tx.toList.isEmpty = true := by rw [hqe, hem]; rfl
       rw [if_neg (fun e => e.1 hem)] at HV
       clear hq hqe hem hsem
       go_wp2
       refine bodyPost_ret (v := .tuple #[.agg #[.int .i64 0, .int .i64 0, .int .i64 0], .bool false]) (by simp [results, Tryz.results44, go_sem]; go_simp) rfl ⟨by rw [HV.out], ?_⟩
       exact ((HBf.out.setCell (p := ⟨w.heap.size, 0, none⟩) (Nat.le_refl _) _).setCell (p := ⟨w.heap.size, 1, none⟩) (Nat.le_refl _) _).setCell (p := ⟨w.heap.size, 2, none⟩) (Nat.le_refl _) _
     · have hqe' : Tx.toList.isEmpty = false := by
         rw [hqe]
         cases hd : deedT ⟨0, 0, 0⟩ with
         | nil => exact absurd hd hem
         | cons _ _ => rfl
       by_cases hd : deedT ⟨0, 0, 0⟩ = s.data.toList
       · have hq' : (Tx.toList == s.toList) = true := by rw [hq, hd]; simp
         rw [if_pos ⟨hem, hd⟩] at HV
         clear hq hqe hem hd hsem
         go_wp2
         refine bodyPost_ret (v := .tuple #[.agg #[.int .i64 (0), .int .i64 (0), .int .i64 (0)], .bool true]) (by simp [results, Tryz.results44, go_sem]; go_simp) rfl ⟨by rw [HV.out], ?_⟩
         exact ((HBf.out.setCell (p := ⟨w.heap.size, 0, none⟩) (Nat.le_refl _) _).setCell (p := ⟨w.heap.size, 1, none⟩) (Nat.le_refl _) _).setCell (p := ⟨w.heap.size, 2, none⟩) (Nat.le_refl _) _
       · have hq' : (Tx.toList == s.toList) = false := by rw [hq]; exact beq_eq_false_iff_ne.2 hd
         rw [if_neg (fun e => hd e.2)] at HV
         clear hq hqe hem hd hsem
         go_wp2
         refine bodyPost_ret (v := .tuple #[.agg #[.int .i64 0, .int .i64 0, .int .i64 0], .bool false]) (by simp [results, Tryz.results44, go_sem]; go_simp) rfl ⟨by rw [HV.out], ?_⟩
         exact ((HBf.out.setCell (p := ⟨w.heap.size, 0, none⟩) (Nat.le_refl _) _).setCell (p := ⟨w.heap.size, 1, none⟩) (Nat.le_refl _) _).setCell (p := ⟨w.heap.size, 2, none⟩) (Nat.le_refl _) _
   · clear hyes
     go_wp2_with fail
     refine calls_namedD ?_
     intro w10 hw10
     have hB10 : Below w1.heap.size w1 w10 := by rw [hw10]; exact hB5r
     have hz10 := hB10.size
     have i0 : w10.cell? ⟨b, 0, none⟩ = some (.int .i64 (kd)) := by rw [hw10]; go_simp
     have i1 : w10.cell? ⟨b, 1, none⟩ = some (.int .i64 (0)) := by rw [hw10]; go_simp
     have i2 : w10.cell? ⟨b, 2, none⟩ = some (.int .i64 (0)) := by rw [hw10]; go_simp
     have hb10 : b < w10.heap.size := by rw [hw10]; first | exact hb0' | (simp [World.setCell]; omega)
     have z0 : w10.cell? ⟨w.heap.size, 0, none⟩ = some (.int .i64 0) := by rw [hw10]; go_simp
     have fz0 : w10.frozen? ⟨w.heap.size, 0, none⟩ = false := by rw [hw10]; go_simp
     have z1 : w10.cell? ⟨w.heap.size, 1, none⟩ = some (.int .i64 0) := by rw [hw10]; go_simp
     have fz1 : w10.frozen? ⟨w.heap.size, 1, none⟩ = false := by rw [hw10]; go_simp
     have z2 : w10.cell? ⟨w.heap.size, 2, none⟩ = some (.int .i64 0) := by rw [hw10]; go_simp
     have fz2 : w10.frozen? ⟨w.heap.size, 2, none⟩ = false := by rw [hw10]; go_simp
     have HB10 := Lib.hid hB10
     clear hw10 hB10
     have hc : candI s = ⟨kd, 0, 0⟩ := HCI.out
     have hV := readOf_cand hc
     have HV := Lib.hid hV
     have hq := HSEQ.out (txt (deedT ⟨kd, 0, 0⟩))
     have hqe : (txt (deedT ⟨kd, 0, 0⟩)).toList.isEmpty = (deedT ⟨kd, 0, 0⟩).isEmpty := by rw [bl_toList]; rfl
     rw [txt_list] at hq
     obtain ⟨Tx, hTx⟩ : ∃ Tx, txt (deedT ⟨kd, 0, 0⟩) = Tx := ⟨_, rfl⟩
     have hdt := fun W hW => implText_any (kd) (0) (0) W hW
     rw [hTx] at hq hqe hdt
     have HDT := Lib.hid hdt
     have hww : w.heap.size < w10.heap.size := by omega
     clear hc hV hTx hdt HCI HCD
     refine (HDT.out _ (HT1.out.below HB10.out (Nat.le_refl _))).mono ?_
     rintro e w9 ⟨rfl, hb9⟩
     obtain ⟨hc9, hf9⟩ := bcell hb9
     have hz9 := hb9.size
     have l0 : w9.cell? ⟨b, 0, none⟩ = some (.int .i64 (kd)) := by go_simp
     have l1 : w9.cell? ⟨b, 1, none⟩ = some (.int .i64 (0)) := by go_simp
     have l2 : w9.cell? ⟨b, 2, none⟩ = some (.int .i64 (0)) := by go_simp
     have j0 : w9.cell? ⟨w.heap.size, 0, none⟩ = some (.int .i64 0) := by go_simp
     have fj0 : w9.frozen? ⟨w.heap.size, 0, none⟩ = false := by go_simp
     have j1 : w9.cell? ⟨w.heap.size, 1, none⟩ = some (.int .i64 0) := by go_simp
     have fj1 : w9.frozen? ⟨w.heap.size, 1, none⟩ = false := by go_simp
     have j2 : w9.cell? ⟨w.heap.size, 2, none⟩ = some (.int .i64 0) := by go_simp
     have fj2 : w9.frozen? ⟨w.heap.size, 2, none⟩ = false := by go_simp
     have HB9 := Lib.hid (HB10.out.trans (hb9.mono zO))
     have hbw9 : w.heap.size < w9.heap.size := by omega
     clear hc9 hf9 hb9 i0 i1 i2 z0 z1 z2 fz0 fz1 fz2
     have HBf := Lib.hid (show Below w.heap.size w w9 from HB1.out.trans (HB9.out.mono zO))
     by_cases hem : deedT ⟨kd, 0, 0⟩ = []
     · have hqe' : Tx.toList.isEmpty = true := by rw [hqe, hem]; rfl
       rw [if_neg (fun e => e.1 hem)] at HV
       clear hq hqe hem hsem
       go_wp2
       refine bodyPost_ret (v := .tuple #[.agg #[.int .i64 0, .int .i64 0, .int .i64 0], .bool false]) (by simp [results, Tryz.results44, go_sem]; go_simp) rfl ⟨by rw [HV.out], ?_⟩
       exact ((HBf.out.setCell (p := ⟨w.heap.size, 0, none⟩) (Nat.le_refl _) _).setCell (p := ⟨w.heap.size, 1, none⟩) (Nat.le_refl _) _).setCell (p := ⟨w.heap.size, 2, none⟩) (Nat.le_refl _) _
     · have hqe' : Tx.toList.isEmpty = false := by
         rw [hqe]
         cases hd : deedT ⟨kd, 0, 0⟩ with
         | nil => exact absurd hd hem
         | cons _ _ => rfl
       by_cases hd : deedT ⟨kd, 0, 0⟩ = s.data.toList
       · have hq' : (Tx.toList == s.toList) = true := by rw [hq, hd]; simp
         rw [if_pos ⟨hem, hd⟩] at HV
         clear hq hqe hem hd hsem
         go_wp2
         refine bodyPost_ret (v := .tuple #[.agg #[.int .i64 (kd), .int .i64 (0), .int .i64 (0)], .bool true]) (by simp [results, Tryz.results44, go_sem]; go_simp) rfl ⟨by rw [HV.out], ?_⟩
         exact ((HBf.out.setCell (p := ⟨w.heap.size, 0, none⟩) (Nat.le_refl _) _).setCell (p := ⟨w.heap.size, 1, none⟩) (Nat.le_refl _) _).setCell (p := ⟨w.heap.size, 2, none⟩) (Nat.le_refl _) _
       · have hq' : (Tx.toList == s.toList) = false := by rw [hq]; exact beq_eq_false_iff_ne.2 hd
         rw [if_neg (fun e => hd e.2)] at HV
         clear hq hqe hem hd hsem
         go_wp2
         refine bodyPost_ret (v := .tuple #[.agg #[.int .i64 0, .int .i64 0, .int .i64 0], .bool false]) (by simp [results, Tryz.results44, go_sem]; go_simp) rfl ⟨by rw [HV.out], ?_⟩
         exact ((HBf.out.setCell (p := ⟨w.heap.size, 0, none⟩) (Nat.le_refl _) _).setCell (p := ⟨w.heap.size, 1, none⟩) (Nat.le_refl _) _).setCell (p := ⟨w.heap.size, 2, none⟩) (Nat.le_refl _) _
end
section
open Go.RowKit
theorem digZ_bd : ∀ (l : List UInt8), -1000000000 < (digZ l).1 ∧ (digZ l).1 < 1000000000
 | [] => by simp [digZ]
 | c :: t => by
   unfold digZ
   split
   · have := digZ_bd t; constructor <;> (show _ < _; simp only; omega)
   · split
     · rename_i n hn
       have := digitsN_lt hn
       constructor <;> (simp only; omega)
     · simp
theorem digZ_minus {c : UInt8} {t : List UInt8} (hc : c = 45) (ht : t ≠ []) : digZ (c :: t) = (-(digZ t).1, (digZ t).2 && decide (0 < (digZ t).1)) := by
 rw [digZ, if_pos ⟨hc, ht⟩]
theorem digZ_yes {l : List UInt8} {n : Nat} (h : digitsN l = some n) (hm : ¬ (1 < l.length ∧ l.head? = some 45)) : digZ l = ((n : Int), true) := by
 cases l with
 | nil => simp [digitsN] at h
 | cons c t =>
   rw [digZ, if_neg (fun e => hm ⟨by have := List.length_pos_iff.2 e.2; simp only [List.length_cons]; omega, by rw [e.1]; rfl⟩), h]
theorem digZ_no {l : List UInt8} (h : digitsN l = none) (hm : ¬ (1 < l.length ∧ l.head? = some 45)) : digZ l = (0, false) := by
 cases l with
 | nil => rfl
 | cons c t =>
   rw [digZ, if_neg (fun e => hm ⟨by have := List.length_pos_iff.2 e.2; simp only [List.length_cons]; omega, by rw [e.1]; rfl⟩), h]
theorem digitsN_no {l : List UInt8} (h : ¬ (1 ≤ l.length ∧ l.length ≤ 9 ∧ (l.length = 1 ∨ l.head? ≠ some 48) ∧ l.all isDig = true)) : digitsN l = none := by unfold digitsN; rw [if_neg h]
theorem digitsN_yes {l : List UInt8} (h : 1 ≤ l.length ∧ l.length ≤ 9 ∧ (l.length = 1 ∨ l.head? ≠ some 48) ∧ l.all isDig = true) : digitsN l = some (valN l) := by unfold digitsN; rw [if_pos h]
theorem all_take {l : List UInt8} {k : Nat} (hk : k < l.length) (h : (l.take k).all isDig = true) (hd : isDig l[k] = true) : (l.take (k + 1)).all isDig = true := by
 rw [List.take_succ_eq_append_getElem hk, List.all_append, h]; simp [hd]
theorem valN_take {l : List UInt8} {k : Nat} (hk : k < l.length) : valN (l.take (k + 1)) = 10 * valN (l.take k) + (l[k].toNat - 48) := by
 rw [List.take_succ_eq_append_getElem hk, valN_snoc]
theorem not_all {l : List UInt8} {k : Nat} (hk : k < l.length) (hd : isDig l[k] = false) : ¬ l.all isDig = true := by
 intro h
 have := List.all_eq_true.1 h _ (List.getElem_mem hk)
 rw [hd] at this; cases this
theorem byte_of {s : ByteArray} {l : List UInt8} (hl : s.data.toList = l) {i : Nat} (hlt : i < s.size) (hil : i < l.length) : s[i]'hlt = l[i] := by
 have h1 : s.data.toList[i]? = l[i]? := by rw [hl]
 have h2 : i < s.data.toList.length := by rw [bl_size]; exact hlt
 rw [List.getElem?_eq_getElem h2, List.getElem?_eq_getElem hil] at h1
 exact (Array.getElem_toList ..).symm.trans (Option.some.inj h1)
set_option maxRecDepth 100000 in
set_option maxHeartbeats 4000000 in
theorem digits_plain (s : ByteArray) (w : World) (hs : s.size ≤ 2097152) (hm : ¬ (1 < s.size ∧ s.data.toList.head? = some 45)) : Calls Tryz.prog 68 #[.string s] w fun e w' => e = .returned (.tuple #[.int .i64 (digZ s.data.toList).1, .bool (digZ s.data.toList).2]) ∧ Below w.heap.size w w' := by
 have hsl : s.data.toList.length = s.size := bl_size s
 obtain ⟨l, hl⟩ : ∃ l, s.data.toList = l := ⟨_, rfl⟩
 have HL := Lib.hid hl
 rw [hl] at hsl hm ⊢
 have hm' : ¬ (1 < l.length ∧ l.head? = some 45) := by rw [hsl]; exact hm
 have hno := fun h => digZ_no (l := l) (digitsN_no h) hm'
 have hyes := fun h => digZ_yes (l := l) (digitsN_yes h) hm'
 have hb0 : ∀ h0 : 0 < s.size, 1 < s.size → ¬ (((s[0]'h0).toNat : Int) = 45) := fun h0 h1 e => by
   have e1 := byte_of hl h0 zO
   refine hm ⟨h1, ?_⟩
   rw [List.head?_eq_getElem?, List.getElem?_eq_getElem zO, ← e1]
   have e' : (s[0]'h0).toNat = 45 := by omega
   congr 1
   rw [← UInt8.toNat_inj]; exact e'
 rcases (show s.size = 0 ∨ 9 < s.size ∨ (1 ≤ s.size ∧ s.size ≤ 9) by omega) with h | h | ⟨h1, h9⟩
 · have HN := Lib.hid (hno (fun e => by omega))
   have hI : inB (s.size : Int) 1 9 = false := decide_eq_false zO
   have h1 : ¬ (1 < (s.size : Int)) := by omega
   clear hno hyes hb0 hm hm' hl h hsl
   go_enter Tryz.func68, Tryz.ntmps68
   go_wp2_with fail
   refine (l1In_is _ 1 9 false _ hI).mono ?_
   rintro e w1 ⟨rfl, hw1⟩
   subst hw1
   go_wp2
   refine bodyPost_ret (v := .tuple #[.int .i64 0, .bool false]) (by simp [results, Tryz.results68, go_sem]) rfl ⟨by rw [HN.out], Below.refl _ _⟩
 · have HN := Lib.hid (hno (fun e => by omega))
   have hI : inB (s.size : Int) 1 9 = false := decide_eq_false zO
   have h1 : (1 < (s.size : Int)) := by omega
   have h0s : 0 < s.size := by omega
   have hb := hb0 h0s zO
   have hx8 := (s[0]'h0s).toNat_lt
   clear hno hyes hb0 hm hm' hl
   go_enter Tryz.func68, Tryz.ntmps68
   go_wp2_with fail
   refine (l1In_is _ 1 9 false _ hI).mono ?_
   rintro e w1 ⟨rfl, hw1⟩
   subst hw1
   go_wp2
   refine bodyPost_ret (v := .tuple #[.int .i64 0, .bool false]) (by simp [results, Tryz.results68, go_sem]) rfl ⟨by rw [HN.out], Below.refl _ _⟩
 · have hI : inB (s.size : Int) 1 9 = true := decide_eq_true zO
   have h0s : 0 < s.size := by omega
   have hx8 := (s[0]'h0s).toNat_lt
   have hz0 := byte_of hl h0s zO
   have hhead : l.head? = some (s[0]'h0s) := by rw [List.head?_eq_getElem?, List.getElem?_eq_getElem zO, hz0]
   by_cases hz : 1 < s.size ∧ ((s[0]'h0s).toNat : Int) = 48
   · have HN := Lib.hid (hno (fun e => by
       rcases e.2.2.1 with e1 | e1
       · omega
       · refine e1 ?_
         rw [hhead]
         have e' : (s[0]'h0s).toNat = 48 := by omega
         congr 1
         rw [← UInt8.toNat_inj]; exact e'))
     have hb := hb0 h0s hz.1
     have h1 : (1 < (s.size : Int)) := by omega
     have hz48 := hz.2
     clear hno hyes hb0 hm hm' hl hhead hz0 hz
     go_enter Tryz.func68, Tryz.ntmps68
     go_wp2_with fail
     refine (l1In_is _ 1 9 true _ hI).mono ?_
     rintro e w1 ⟨rfl, hw1⟩
     subst hw1
     go_wp2
     refine bodyPost_ret (v := .tuple #[.int .i64 0, .bool false]) (by simp [results, Tryz.results68, go_sem]) rfl ⟨by rw [HN.out], Below.refl _ _⟩
   · have hok : l.length = 1 ∨ l.head? ≠ some 48 := by
       rcases (show s.size = 1 ∨ 1 < s.size by omega) with h | h
       · exact .inl zO
       · refine .inr (fun e => hz ⟨h, ?_⟩)
         rw [hhead] at e
         rw [Option.some.inj e]; rfl
     have HNO := Lib.hid (fun (h : ¬ l.all isDig = true) => hno (fun e => h e.2.2.2))
     have HYES := Lib.hid (fun (h : l.all isDig = true) => hyes ⟨by omega, by omega, hok, h⟩)
     have HBY := Lib.hid (fun (i : Nat) (hi : i < s.size) => byte_of hl hi zO)
     have hbd : s.size ≤ 1 ∨ (1 < (s.size : Int) ∧ ¬ (((s[0]'h0s).toNat : Int) = 45) ∧ ¬ (((s[0]'h0s).toNat : Int) = 48)) := by
       rcases (show s.size ≤ 1 ∨ 1 < s.size by omega) with h | h
       · exact .inl h
       · exact .inr ⟨by omega, hb0 h0s h, fun e => hz ⟨h, e⟩⟩
     clear hno hyes hb0 hm hm' hhead hz0 hz hok
     rcases hbd with hle | ⟨hgt, hb45, hb48⟩
     · have h1' : ¬ (1 < (s.size : Int)) := by omega
       go_enter Tryz.func68, Tryz.ntmps68
       go_wp2_with fail
       refine (l1In_is _ 1 9 true _ hI).mono ?_
       rintro e w1 ⟨rfl, hw1⟩
       subst hw1
       go_wp2_with fail
       go_loop [6, 7] (fun x6 x7 => ∃ k : Nat, k ≤ s.size ∧ x7 = .int .i64 k ∧ x6 = .int .i64 ((valN (l.take k) : Nat) : Int) ∧ (l.take k).all isDig = true) (fun _ x7 => 10 - (intOf x7).toNat)
       case atStart => exact ⟨0, by omega, rfl, rfl, rfl⟩
       case round =>
         obtain ⟨k, hk, rfl, rfl, hall⟩ := hrel
         have hvl := valN_lt _ hall
         have hlen : (l.take k).length ≤ k := by rw [List.length_take]; omega
         have hv9 : valN (l.take k) < 10 ^ 9 := Nat.lt_of_lt_of_le hvl (Nat.pow_le_pow_right zO zO)
         by_cases hlt : k < s.size
         · have hki : (k : Int) < (s.size : Int) := by omega
           have k0 : (0 : Int) ≤ (k : Int) := by omega
           have hby := HBY.out k hlt
           have hx := (s[k]'hlt).toNat_lt
           have hkl : k < l.length := by omega
           have hvt := valN_take hkl
           have hat := fun h => all_take hkl hall h
           have hna := fun h => HNO.out (not_all hkl h)
           rw [← hby] at hvt hat hna
           obtain ⟨v, hv⟩ : ∃ v, valN (l.take k) = v := ⟨_, rfl⟩
           rw [hv] at hvt hv9 ⊢
           rcases (show (s[k]'hlt).toNat < 48 ∨ 57 < (s[k]'hlt).toNat ∨ (48 ≤ (s[k]'hlt).toNat ∧ (s[k]'hlt).toNat ≤ 57) by omega) with hd | hd | ⟨hd1, hd2⟩
           · have HN := Lib.hid (hna (decide_eq_false zO))
             have hd' : ((s[k]'hlt).toNat : Int) < 48 := by omega
             clear hvt hat hna hall hvl hby hl hv
             go_wp2
             refine bodyPost_ret (v := .tuple #[.int .i64 0, .bool false]) (by simp [results, Tryz.results68, go_sem]) rfl ⟨by rw [HN.out], Below.refl _ _⟩
           · have HN := Lib.hid (hna (decide_eq_false zO))
             have hd' : ¬ ((s[k]'hlt).toNat : Int) < 48 := by omega
             have hd'' : (57 : Int) < ((s[k]'hlt).toNat : Int) := by omega
             clear hvt hat hna hall hvl hby hl hv
             go_wp2
             refine bodyPost_ret (v := .tuple #[.int .i64 0, .bool false]) (by simp [results, Tryz.results68, go_sem]) rfl ⟨by rw [HN.out], Below.refl _ _⟩
           · have HA := Lib.hid (hat (decide_eq_true ⟨hd1, hd2⟩))
             have HV := Lib.hid hvt
             have hd' : ¬ ((s[k]'hlt).toNat : Int) < 48 := by omega
             have hd'' : ¬ (57 : Int) < ((s[k]'hlt).toNat : Int) := by omega
             have W8 : IntKind.u8.wrap (((s[k]'hlt).toNat : Int) - 48) = ((s[k]'hlt).toNat : Int) - 48 := IntWalk.u8_in _ ⟨by omega, by omega⟩
             have W6 : IntKind.i64.wrap (((s[k]'hlt).toNat : Int) - 48) = ((s[k]'hlt).toNat : Int) - 48 := by rw [IntKind.wrap_i64]; omega
             have WM : IntKind.i64.wrap (10 * (v : Int)) = 10 * (v : Int) := by rw [IntKind.wrap_i64]; omega
             have WA : IntKind.i64.wrap (10 * (v : Int) + (((s[k]'hlt).toNat : Int) - 48)) = 10 * (v : Int) + (((s[k]'hlt).toNat : Int) - 48) := by rw [IntKind.wrap_i64]; omega
             have WK : IntKind.i64.wrap ((k : Int) + 1) = (k : Int) + 1 := by rw [IntKind.wrap_i64]; omega
             clear hvt hat hna hall hvl hby hl hv
             go_wp2
             go_round
             case rel => exact ⟨k + 1, by omega, congrArg (Value.int .i64) zO, congrArg (Value.int .i64) (by rw [HV.out]; omega), HA.out⟩
             case measure => simp [intOf]; omega
         · obtain rfl : k = s.size := by omega
           have hta : l.take s.size = l := List.take_of_length_le zO
           rw [hta] at hall hv9 ⊢
           have HY := Lib.hid (HYES.out hall)
           obtain ⟨v, hv⟩ : ∃ v, valN l = v := ⟨_, rfl⟩
           rw [hv] at HY hv9 ⊢
           clear hta hall hvl hl hv
           go_wp2
           refine bodyPost_ret (v := .tuple #[.int .i64 v, .bool true]) (by simp [results, Tryz.results68, go_sem]) rfl ⟨by rw [HY.out], Below.refl _ _⟩
     · have hgt' : 1 < s.size := by omega
       go_enter Tryz.func68, Tryz.ntmps68
       go_wp2_with fail
       refine (l1In_is _ 1 9 true _ hI).mono ?_
       rintro e w1 ⟨rfl, hw1⟩
       subst hw1
       go_wp2_with fail
       go_loop [6, 7] (fun x6 x7 => ∃ k : Nat, k ≤ s.size ∧ x7 = .int .i64 k ∧ x6 = .int .i64 ((valN (l.take k) : Nat) : Int) ∧ (l.take k).all isDig = true) (fun _ x7 => 10 - (intOf x7).toNat)
       case atStart => exact ⟨0, by omega, rfl, rfl, rfl⟩
       case round =>
         obtain ⟨k, hk, rfl, rfl, hall⟩ := hrel
         have hvl := valN_lt _ hall
         have hlen : (l.take k).length ≤ k := by rw [List.length_take]; omega
         have hv9 : valN (l.take k) < 10 ^ 9 := Nat.lt_of_lt_of_le hvl (Nat.pow_le_pow_right zO zO)
         by_cases hlt : k < s.size
         · have hki : (k : Int) < (s.size : Int) := by omega
           have k0 : (0 : Int) ≤ (k : Int) := by omega
           have hby := HBY.out k hlt
           have hx := (s[k]'hlt).toNat_lt
           have hkl : k < l.length := by omega
           have hvt := valN_take hkl
           have hat := fun h => all_take hkl hall h
           have hna := fun h => HNO.out (not_all hkl h)
           rw [← hby] at hvt hat hna
           obtain ⟨v, hv⟩ : ∃ v, valN (l.take k) = v := ⟨_, rfl⟩
           rw [hv] at hvt hv9 ⊢
           rcases (show (s[k]'hlt).toNat < 48 ∨ 57 < (s[k]'hlt).toNat ∨ (48 ≤ (s[k]'hlt).toNat ∧ (s[k]'hlt).toNat ≤ 57) by omega) with hd | hd | ⟨hd1, hd2⟩
           · have HN := Lib.hid (hna (decide_eq_false zO))
             have hd' : ((s[k]'hlt).toNat : Int) < 48 := by omega
             clear hvt hat hna hall hvl hby hl hv
             go_wp2
             refine bodyPost_ret (v := .tuple #[.int .i64 0, .bool false]) (by simp [results, Tryz.results68, go_sem]) rfl ⟨by rw [HN.out], Below.refl _ _⟩
           · have HN := Lib.hid (hna (decide_eq_false zO))
             have hd' : ¬ ((s[k]'hlt).toNat : Int) < 48 := by omega
             have hd'' : (57 : Int) < ((s[k]'hlt).toNat : Int) := by omega
             clear hvt hat hna hall hvl hby hl hv
             go_wp2
             refine bodyPost_ret (v := .tuple #[.int .i64 0, .bool false]) (by simp [results, Tryz.results68, go_sem]) rfl ⟨by rw [HN.out], Below.refl _ _⟩
           · have HA := Lib.hid (hat (decide_eq_true ⟨hd1, hd2⟩))
             have HV := Lib.hid hvt
             have hd' : ¬ ((s[k]'hlt).toNat : Int) < 48 := by omega
             have hd'' : ¬ (57 : Int) < ((s[k]'hlt).toNat : Int) := by omega
             have W8 : IntKind.u8.wrap (((s[k]'hlt).toNat : Int) - 48) = ((s[k]'hlt).toNat : Int) - 48 := IntWalk.u8_in _ ⟨by omega, by omega⟩
             have W6 : IntKind.i64.wrap (((s[k]'hlt).toNat : Int) - 48) = ((s[k]'hlt).toNat : Int) - 48 := by rw [IntKind.wrap_i64]; omega
             have WM : IntKind.i64.wrap (10 * (v : Int)) = 10 * (v : Int) := by rw [IntKind.wrap_i64]; omega
             have WA : IntKind.i64.wrap (10 * (v : Int) + (((s[k]'hlt).toNat : Int) - 48)) = 10 * (v : Int) + (((s[k]'hlt).toNat : Int) - 48) := by rw [IntKind.wrap_i64]; omega
             have WK : IntKind.i64.wrap ((k : Int) + 1) = (k : Int) + 1 := by rw [IntKind.wrap_i64]; omega
             clear hvt hat hna hall hvl hby hl hv
             go_wp2
             go_round
             case rel => exact ⟨k + 1, by omega, congrArg (Value.int .i64) zO, congrArg (Value.int .i64) (by rw [HV.out]; omega), HA.out⟩
             case measure => simp [intOf]; omega
         · obtain rfl : k = s.size := by omega
           have hta : l.take s.size = l := List.take_of_length_le zO
           rw [hta] at hall hv9 ⊢
           have HY := Lib.hid (HYES.out hall)
           obtain ⟨v, hv⟩ : ∃ v, valN l = v := ⟨_, rfl⟩
           rw [hv] at HY hv9 ⊢
           clear hta hall hvl hl hv
           go_wp2
           refine bodyPost_ret (v := .tuple #[.int .i64 v, .bool true]) (by simp [results, Tryz.results68, go_sem]) rfl ⟨by rw [HY.out], Below.refl _ _⟩
set_option maxRecDepth 100000 in
set_option maxHeartbeats 2000000 in
theorem digits_at : ∀ (k : Nat) (s : ByteArray), s.size ≤ k → s.size ≤ 2097152 → ∀ w, Calls Tryz.prog 68 #[.string s] w fun e w' => e = .returned (.tuple #[.int .i64 (digZ s.data.toList).1, .bool (digZ s.data.toList).2]) ∧ Below w.heap.size w w' := by
 intro k
 induction k with
 | zero => exact fun s h hs w => digits_plain s w hs (fun e => by omega)
 | succ k ih =>
   intro s h hs w
   by_cases hm : 1 < s.size ∧ s.data.toList.head? = some 45
   · obtain ⟨h1, hh⟩ := hm
     have hsl : s.data.toList.length = s.size := bl_size s
     obtain ⟨c, t, hl⟩ : ∃ c t, s.data.toList = c :: t := by
       cases hc : s.data.toList with
       | nil => rw [hc] at hsl; simp at hsl; omega
       | cons c t => exact ⟨c, t, rfl⟩
     have hc : c = 45 := by rw [hl] at hh; exact Option.some.inj hh
     have htl : t.length = s.size - 1 := by rw [hl] at hsl; simp at hsl; omega
     have hex : s.extract 1 s.size = txt t := by
       rw [extract_txt, hl]
       exact congrArg txt (List.take_of_length_le (by simp; omega))
     have hrec := ih (txt t) (by rw [txt_size]; omega) (by rw [txt_size]; omega)
     rw [txt_list] at hrec
     have hz := digZ_minus hc (fun e => by rw [e] at htl; simp at htl; omega : t ≠ [])
     obtain ⟨b1, b2⟩ := digZ_bd t
     rw [hl, hz]
     obtain ⟨m, hmz⟩ : ∃ m, (digZ t).1 = m := ⟨_, rfl⟩
     obtain ⟨ok, hokz⟩ : ∃ ok, (digZ t).2 = ok := ⟨_, rfl⟩
     rw [hmz] at b1 b2
     rw [hmz, hokz] at hrec ⊢
     have HR := Lib.hid hrec
     have h0s : 0 < s.size := by omega
     have hb45 : ((s[0]'h0s).toNat : Int) = 45 := by
       rw [byte_of hl h0s (by simp)]
       show ((c.toNat : Nat) : Int) = 45
       rw [hc]; rfl
     have h1i : (1 : Int) < (s.size : Int) := by omega
     have h1j : (1 : Int) ≤ (s.size : Int) := by omega
     have h1n : 1 ≤ s.size := by omega
     have hneg : IntKind.i64.wrap (-m) = -m := by rw [IntKind.wrap_i64]; omega
     clear hrec hz hmz hokz hl hsl hh htl ih
     cases ok with
     | false =>
       go_enter Tryz.func68, Tryz.ntmps68
       go_wp2_with fail
       refine (HR.out _).mono ?_
       rintro e w1 ⟨rfl, hb1⟩
       go_wp2
       refine bodyPost_ret (v := .tuple #[.int .i64 (-m), .bool false]) (by simp [results, Tryz.results68, go_sem] <;> omega) rfl ⟨by simp, hb1⟩
     | true =>
       by_cases hm0 : 0 < m
       · rw [decide_eq_true hm0]
         go_enter Tryz.func68, Tryz.ntmps68
         go_wp2_with fail
         refine (HR.out _).mono ?_
         rintro e w1 ⟨rfl, hb1⟩
         go_wp2
         refine bodyPost_ret (v := .tuple #[.int .i64 (-m), .bool true]) (by simp [results, Tryz.results68, go_sem]) rfl ⟨by simp, hb1⟩
       · rw [decide_eq_false hm0]
         go_enter Tryz.func68, Tryz.ntmps68
         go_wp2_with fail
         refine (HR.out _).mono ?_
         rintro e w1 ⟨rfl, hb1⟩
         go_wp2
         refine bodyPost_ret (v := .tuple #[.int .i64 (-m), .bool false]) (by simp [results, Tryz.results68, go_sem] <;> omega) rfl ⟨by simp, hb1⟩
   · exact digits_plain s w hs hm
theorem digits_any (s : ByteArray) (w : World) (hs : s.size ≤ 2097152) : Calls Tryz.prog 68 #[.string s] w fun e w' => e = .returned (.tuple #[.int .i64 (digZ s.data.toList).1, .bool (digZ s.data.toList).2]) ∧ Below w.heap.size w w' := digits_at s.size s (Nat.le_refl _) hs w
end
section
open Go.RowKit
theorem deedCells_at : ∀ (L : List DeedN) (j : Nat) (u : Value), (deedCells L)[j]? = some u → ∃ i p, L[i]? = some p ∧ ((j = i * 3 ∧ u = .int .i64 p.kind) ∨ (j = i * 3 + 1 ∧ u = .int .i64 p.a) ∨ (j = i * 3 + 2 ∧ u = .int .i64 p.b))
 | [], j, u, h => by simp [deedCells] at h
 | q :: L, 0, u, h => by
   have h' : (Value.int .i64 q.kind) = u := by simpa [deedCells] using h
   exact ⟨0, q, rfl, .inl ⟨rfl, h'.symm⟩⟩
 | q :: L, 1, u, h => by
   have h' : (Value.int .i64 q.a) = u := by simpa [deedCells] using h
   exact ⟨0, q, rfl, .inr (.inl ⟨rfl, h'.symm⟩)⟩
 | q :: L, 2, u, h => by
   have h' : (Value.int .i64 q.b) = u := by simpa [deedCells] using h
   exact ⟨0, q, rfl, .inr (.inr ⟨rfl, h'.symm⟩)⟩
 | q :: L, j + 3, u, h => by
   have h' : (deedCells L)[j]? = some u := by simpa [deedCells] using h
   obtain ⟨i, p, hp, hj⟩ := deedCells_at L j u h'
   refine ⟨i + 1, p, by simpa using hp, ?_⟩
   rcases hj with ⟨h1, h2⟩ | ⟨h1, h2⟩ | ⟨h1, h2⟩
   · exact .inl ⟨by omega, h2⟩
   · exact .inr (.inl ⟨by omega, h2⟩)
   · exact .inr (.inr ⟨by omega, h2⟩)
theorem deedCells_one (L : List DeedN) : ∀ u ∈ deedCells L, u.oneCell' = true := by
 intro u hu
 obtain ⟨j, hj⟩ := List.getElem?_of_mem hu
 obtain ⟨i, p, _, h | h | h⟩ := deedCells_at L j u hj
 · rw [h.2]; rfl
 · rw [h.2]; rfl
 · rw [h.2]; rfl
theorem IsDeeds.lit {w : World} {g : Nat} {k p q : Int} {t : TypeId} (h : w.heap[g]? = some (.cells #[.int .i64 k, .int .i64 p, .int .i64 q] t (0, 0))) : IsDeeds g w.heap.size w (.slice (some ⟨g, 0, none⟩) 1 1) [⟨k, p, q⟩] := by
 have hlt : g < w.heap.size := (Array.getElem?_eq_some_iff.1 h).1
 refine ⟨_, 1, rfl, Nat.le_refl _, .inr ⟨g, 0, rfl, Nat.le_refl _, ⟨hlt, by simp⟩, fun i x hi => ?_, fun i hi => ?_⟩⟩
 · cases i with
   | zero =>
     have e : x = ⟨k, p, q⟩ := by simpa using hi.symm
     subst e
     exact ⟨by simp [World.cell?, h], by simp [World.cell?, h], by simp [World.cell?, h]⟩
   | succ i => simp at hi
 · simp [World.frozen?, h]
theorem IsDeeds.new (W : World) (k p q : Int) (t : TypeId) (g : Nat) (hg : W.heap.size = g) : IsDeeds g (g + 1) (W.alloc (.cells #[.int .i64 k, .int .i64 p, .int .i64 q] t)) (.slice (some ⟨g, 0, none⟩) 1 1) [⟨k, p, q⟩] := by
 subst hg
 have h := IsDeeds.lit (w := W.alloc (.cells #[.int .i64 k, .int .i64 p, .int .i64 q] t)) (g := W.heap.size) (k := k) (p := p) (q := q) (t := t) (heap_alloc_new _ _)
 rwa [World.size_alloc] at h
section
variable {P : Program} (w : World)
theorem run_append_deeds (base : Nat) (t ty e : TypeId) (i : TypeInfo) (z : Value) (bytes : Nat) (ht : P.underlying t = some (.slice e)) (hi : P.info? e = some i) (hz : i.zero = some z)
   (hsize : i.size = 3) (hby : i.bytes = bytes) (hzs : z.cells.size = 3) (v : Value) (n : Nat) (xs : List Value) (hown : w.ownsRow base e 3 v n xs)
   (B C : Nat) (x : Value) (L : List DeedN) (hx : IsDeeds B C w x L) (h63 : n + L.length ≤ maxLen) (hbytes : (n + L.length) * bytes ≤ 140737488355328) (hbase : base ≤ w.heap.size) :
   ∃ a c w', (Builtin.append_ #[t, t] ty #[v, x]).run P w = .ok (.slice a (n + L.length) c) w' ∧ w'.ownsRow base e 3 (.slice a (n + L.length) c) (n + L.length) (xs ++ deedCells L) ∧ w.grownBy w' v.ownBlock ∧
     ((Value.slice a (n + L.length) c).ownBlock = v.ownBlock ∨ (Value.slice a (n + L.length) c).ownBlock = some w.heap.size) := by
 obtain ⟨a, cap, rfl, hC, hs⟩ := hx
 cases a with
 | none =>
   obtain rfl : L = [] := by
     rcases hs with hs | ⟨g, off, ha, _⟩
     · exact hs
     · cases ha
   obtain ⟨a0, c0, rfl⟩ := own_shape hown
   refine ⟨a0, c0, w, ?_, by simpa [deedCells] using hown, ⟨rfl, rfl, rfl, Nat.le_refl _, fun _ _ _ => rfl⟩, .inl rfl⟩
   rcases hown.2 with ⟨hv, rfl⟩ | ⟨g, cap, cur, hv, _, _, hnc, _⟩
   · cases hv
     simp [Builtin.append_, run_underlying ht, sizeOf, typeInfo, hi, Builtin.lenOf, Builtin.firstCells]
   · cases hv
     simp [Builtin.append_, run_underlying ht, sizeOf, typeInfo, hi, Builtin.lenOf, Builtin.firstCells, hnc, storeCells]
 | some ad =>
   obtain ⟨v', w', h1, h2, h3, _, h5⟩ := run_append_own_at (P := P) w base t ty e i z 3 bytes ht hi hz hsize hby hzs zO v n xs hown ad L.length cap (deedCells L) (deedCells_len L)
     (fun j u hu => by
       rcases hs with rfl | ⟨g, off, ha, _, _, hc, _⟩
       · simp [deedCells] at hu
       · cases ha
         rw [add_row]
         obtain ⟨k, p, hp, h | h | h⟩ := deedCells_at L j u hu
         · rw [h.1, h.2]; exact (hc k p hp).1
         · rw [h.1, h.2]; exact (hc k p hp).2.1
         · rw [h.1, h.2]; exact (hc k p hp).2.2) (deedCells_one L) h63 hbytes hbase
   obtain ⟨a0, c0, rfl⟩ := own_shape h2
   exact ⟨a0, c0, w', h1, h2, h3, h5⟩
theorem wpList_append_deeds {ops : Array Oper} {rest : List Oper} {o : Oper} {a : Act} {Q : Exit → Act → World → Prop} (hgd : o.guard = none) (s x : Operand) (t : TypeId)
   (ho : o.op = .call { callee := .builtin .append, args := #[s, x], argTypes := #[t, t] })
   (base : Nat) (e : TypeId) (i : TypeInfo) (z : Value) (bytes : Nat) (ht : P.underlying t = some (.slice e)) (hi : P.info? e = some i) (hz : i.zero = some z)
   (hsize : i.size = 3) (hby : i.bytes = bytes) (hzs : z.cells.size = 3) (v : Value) (n : Nat) (xs : List Value) (hs : a.eval s = v) (hown : w.ownsRow base e 3 v n xs)
   (B C : Nat) (y : Value) (L : List DeedN) (hx : a.eval x = y) (hy : IsDeeds B C w y L) (N : Nat) (hN : n + L.length = N) (X : List Value) (hX : xs ++ deedCells L = X) (h63 : N ≤ maxLen) (hbytes : N * bytes ≤ 140737488355328) (hbase : base ≤ w.heap.size)
   (h : ∀ a' c' w', w'.ownsRow base e 3 (.slice a' N c') N X → w.grownBy w' v.ownBlock → ((Value.slice a' N c').ownBlock = v.ownBlock ∨ (Value.slice a' N c').ownBlock = some w.heap.size) → wpList P ops Q rest (a.put o.dst (.slice a' N c')) w') : wpList P ops Q (o :: rest) a w := by
 subst hN hX
 refine wpList_plain hgd fun K hK => ?_
 obtain ⟨a', c', w', hr, h2, h3, h4⟩ := run_append_deeds (P := P) w base t o.type e i z bytes ht hi hz hsize hby hzs v n xs hown B C y L hy h63 hbytes hbase
 unfold Oper.wp execOp
 simp only [ho, resolve, invoke, builtin, Sem.run_bind, Sem.run_pure, Result.andThen_ok, List.map_toArray, List.map_cons, List.map_nil, hs, hx, hr]
 exact hK _ _ (h a' c' w' h2 h3 h4)
end
end
section
open Go.RowKit
theorem words_short (s : List UInt8) : ∀ w, ∀ x ∈ wordsN w s, x.length ≤ w.length + s.length := by
 induction s with
 | nil => intro w x hx; simp [wordsN] at hx; subst hx; simp
 | cons c cs ih =>
   intro w x hx
   unfold wordsN at hx
   split at hx
   · rcases List.mem_cons.1 hx with rfl | hx
     · simp
     · have := ih [] x hx; simp at this ⊢; omega
   · have := ih (w ++ [c]) x hx; simp at this ⊢; omega
theorem word_size (s : List UInt8) (i : Nat) : ((wordsN [] s).getD i []).length ≤ s.length := by
 rcases Nat.lt_or_ge i (wordsN [] s).length with h | h
 · have := words_short s [] ((wordsN [] s).getD i []) (by rw [List.getD_eq_getElem?_getD, List.getElem?_eq_getElem h]; exact List.getElem_mem h)
   simpa using this
 · simp [List.getD_eq_getElem?_getD, List.getElem?_eq_none h]
theorem deeds_row (w : World) (B : Nat) (t : TypeId) (hB : B ≤ w.heap.size) : (w.alloc (.cells #[.int .i64 1, .int .i64 0, .int .i64 0, .int .i64 2, .int .i64 0, .int .i64 0, .int .i64 3, .int .i64 0, .int .i64 0, .int .i64 4, .int .i64 0, .int .i64 0] t)).ownsRow B t 3 (.slice (some ⟨w.heap.size, 0, none⟩) 4 4) 4 (deedCells [⟨1, 0, 0⟩, ⟨2, 0, 0⟩, ⟨3, 0, 0⟩, ⟨4, 0, 0⟩]) :=
 ⟨by simp [deedCells], .inr ⟨w.heap.size, 4, _, rfl, hB, heap_alloc_new w _, Nat.le_refl _, by unfold maxLen; omega, rfl, rfl⟩⟩
theorem cands_no {s : List UInt8} (h : ¬ (wordsN [] s).length = 3) : candsS s = [⟨1, 0, 0⟩, ⟨2, 0, 0⟩, ⟨3, 0, 0⟩, ⟨4, 0, 0⟩] := by unfold candsS; rw [if_neg h]; rfl
theorem cands_yes {s : List UInt8} (h : (wordsN [] s).length = 3) : candsS s = [⟨1, 0, 0⟩, ⟨2, 0, 0⟩, ⟨3, 0, 0⟩, ⟨4, 0, 0⟩] ++ [⟨0, (digZ ((wordsN [] s).getD 1 [])).1, (digZ ((wordsN [] s).getD 2 [])).1⟩] := by unfold candsS; rw [if_pos h]
theorem digits_txt (t : List UInt8) (w : World) (ht : t.length ≤ 2097152) : Calls Tryz.prog 68 #[.string (txt t)] w fun e w' => e = .returned (.tuple #[.int .i64 (digZ t).1, .bool (digZ t).2]) ∧ Below w.heap.size w w' := digits_any (txt t) w (by rw [txt_size]; exact ht)
set_option maxRecDepth 100000 in
set_option maxHeartbeats 4000000 in
theorem specDeedRead_any (s : ByteArray) (w : World) (hs : s.size ≤ 2097152) : Calls Tryz.prog 45 #[.string s] w fun e w' => e = .returned (.tuple #[.agg #[.int .i64 (deedV s.data.toList).1.kind, .int .i64 (deedV s.data.toList).1.a, .int .i64 (deedV s.data.toList).1.b], .bool (deedV s.data.toList).2]) ∧ Below w.heap.size w w' := by
 obtain ⟨i0, hi0, hz0, hzs1, hz2⟩ := info_parts3 info_deed
 have hsl : s.data.toList.length = s.size := bl_size s
 have hcut := fun W => cut_any s W hs
 have hseq := fun t : ByteArray => bl_eq t s
 have hsem : s.toList.isEmpty = s.data.toList.isEmpty := by rw [bl_toList]
 obtain ⟨l, hl⟩ : ∃ l, s.data.toList = l := ⟨_, rfl⟩
 rw [hl] at hsl hseq hsem hcut ⊢
 have HCUT := Lib.hid hcut
 have HSEQ := Lib.hid hseq
 clear hcut hl hseq
 obtain ⟨n, hn⟩ : ∃ n, (wordsN [] l).length = n := ⟨_, rfl⟩
 have HN := Lib.hid hn
 go_enter Tryz.func45, Tryz.ntmps45
 go_wp2_with fail
 refine (HCUT.out _).mono ?_
 rintro e w1 ⟨g, c1, rfl, ⟨hg1, hg2⟩, hcell, hb1⟩
 rw [hn] at hcell ⊢
 obtain ⟨hc1, hf1⟩ := bcell hb1
 have hz1 := hb1.size
 simp at hz1 hg1
 have hw1 : w.heap.size < w1.heap.size := by omega
 have r0 : w1.cell? ⟨w.heap.size, 0, none⟩ = some (.int .i64 0) := by go_simp
 have fr0 : w1.frozen? ⟨w.heap.size, 0, none⟩ = false := by go_simp
 have r1 : w1.cell? ⟨w.heap.size, 1, none⟩ = some (.int .i64 0) := by go_simp
 have fr1 : w1.frozen? ⟨w.heap.size, 1, none⟩ = false := by go_simp
 have r2 : w1.cell? ⟨w.heap.size, 2, none⟩ = some (.int .i64 0) := by go_simp
 have fr2 : w1.frozen? ⟨w.heap.size, 2, none⟩ = false := by go_simp
 have hB1 : Below w.heap.size w w1 := by exact zb
 have HC := Lib.hid hcell
 clear hc1 hf1 hb1 hn hcell
 go_upto_if 20 with fail
 go_cut [5] from 6 (fun s5 wx => ∃ (a : Option Addr) (c : Nat), s5 = .slice a (candsS l).length c ∧ IsDeeds (w.heap.size + 1) wx.heap.size wx (.slice a (candsS l).length c) (candsS l) ∧ (wx.cell? ⟨w.heap.size, 0, none⟩ = some (.int .i64 0) ∧ wx.cell? ⟨w.heap.size, 1, none⟩ = some (.int .i64 0) ∧ wx.cell? ⟨w.heap.size, 2, none⟩ = some (.int .i64 0) ∧ wx.frozen? ⟨w.heap.size, 0, none⟩ = false ∧ wx.frozen? ⟨w.heap.size, 1, none⟩ = false ∧ wx.frozen? ⟨w.heap.size, 2, none⟩ = false) ∧ w.heap.size < wx.heap.size ∧ Below w.heap.size w wx)
 case first =>
   by_cases h3 : n = 3
   · subst h3
     have hq1 := HC.out 1 zd
     have hq2 := HC.out 2 zd
     have hl1 := word_size l 1
     have hl2 := word_size l 2
     have HCY := Lib.hid (cands_yes HN.out)
     obtain ⟨t1, ht1⟩ : ∃ t1, (wordsN [] l).getD 1 [] = t1 := ⟨_, rfl⟩
     obtain ⟨t2, ht2⟩ : ∃ t2, (wordsN [] l).getD 2 [] = t2 := ⟨_, rfl⟩
     rw [ht1] at hq1 hl1 HCY
     rw [ht2] at hq2 hl2 HCY
     have HO := Lib.hid (deeds_row w1 (w.heap.size + 1) 40 zO)
     have hgw : g < w1.heap.size := hg2
     clear ht1 ht2
     go_wp2_with fail
     refine (digits_txt t1 _ zO).mono ?_
     rintro e w2 ⟨rfl, hb2⟩
     obtain ⟨hc2, hf2⟩ := bcell hb2
     have hz2' := hb2.size
     simp at hz2'
     have hq2' : w2.cell? ⟨g, 2, none⟩ = some (.string (txt t2)) := by go_simp
     have hw2 : w.heap.size < w2.heap.size := by omega
     have s0 : w2.cell? ⟨w.heap.size, 0, none⟩ = some (.int .i64 0) := by go_simp
     have fs0 : w2.frozen? ⟨w.heap.size, 0, none⟩ = false := by go_simp
     have s1 : w2.cell? ⟨w.heap.size, 1, none⟩ = some (.int .i64 0) := by go_simp
     have fs1 : w2.frozen? ⟨w.heap.size, 1, none⟩ = false := by go_simp
     have s2 : w2.cell? ⟨w.heap.size, 2, none⟩ = some (.int .i64 0) := by go_simp
     have fs2 : w2.frozen? ⟨w.heap.size, 2, none⟩ = false := by go_simp
     have HO2 := Lib.hid (own_keeps HO.out hb2)
     have hB2 : Below w.heap.size w w2 := by exact zb
     have hg2w : g < w2.heap.size := by omega
     have hw12 : w1.heap.size < w2.heap.size := by omega
     clear hc2 hf2 hb2 hq1 hq2 r0 r1 r2 fr0 fr1 fr2 HO
     go_wp2_with fail
     refine (digits_txt t2 _ zO).mono ?_
     rintro e w3 ⟨rfl, hb3⟩
     obtain ⟨hc3, hf3⟩ := bcell hb3
     have hz3 := hb3.size
     have hw3 : w.heap.size < w3.heap.size := by omega
     have u0 : w3.cell? ⟨w.heap.size, 0, none⟩ = some (.int .i64 0) := by go_simp
     have fu0 : w3.frozen? ⟨w.heap.size, 0, none⟩ = false := by go_simp
     have u1 : w3.cell? ⟨w.heap.size, 1, none⟩ = some (.int .i64 0) := by go_simp
     have fu1 : w3.frozen? ⟨w.heap.size, 1, none⟩ = false := by go_simp
     have u2 : w3.cell? ⟨w.heap.size, 2, none⟩ = some (.int .i64 0) := by go_simp
     have fu2 : w3.frozen? ⟨w.heap.size, 2, none⟩ = false := by go_simp
     have HO3 := Lib.hid (own_keeps HO2.out hb3)
     have hB3 : Below w.heap.size w w3 := by exact zb
     have hlk := HO3.out.lt
     clear hc3 hf3 hb3 hq2' s0 s1 s2 fs0 fs1 fs2 HO2
     go_wp2_with (at_builtin; refine wpList_append_deeds _ rfl _ _ 24 rfl (w.heap.size + 1) 40 i0 _ 24 Tryz.underlying24 hi0 hz0 hzs1 hz2 rfl (.slice (some ⟨w1.heap.size, 0, none⟩) 4 4) 4 (deedCells ([⟨1, 0, 0⟩, ⟨2, 0, 0⟩, ⟨3, 0, 0⟩, ⟨4, 0, 0⟩] : List DeedN)) rfl (HO3.out.alloc _) w3.heap.size (w3.heap.size + 1) _ [⟨0, (digZ t1).1, (digZ t2).1⟩] rfl (IsDeeds.new _ 0 _ _ _ _ rfl) 5 rfl (deedCells (([⟨1, 0, 0⟩, ⟨2, 0, 0⟩, ⟨3, 0, 0⟩, ⟨4, 0, 0⟩] : List DeedN) ++ [⟨0, (digZ t1).1, (digZ t2).1⟩])) (deedCells_append _ _) (by unfold maxLen; omega) zO (by simp; omega) ?_)
     intro a7 c7 w7 hown7 hgrow7 hat7
     have hb7 : Below (w.heap.size + 1) (w3.alloc (.cells #[.int .i64 0, .int .i64 (digZ t1).1, .int .i64 (digZ t2).1] 40)) w7 := (Below.refl _ _).grown hgrow7 (by simp; omega) (fun g e => (hlk g e).1)
     have hz7 := hb7.size
     simp at hz7
     have hw7 : w.heap.size < w7.heap.size := by omega
     have hw71 : w.heap.size < w.heap.size + 1 := by omega
     have v0 : w7.cell? ⟨w.heap.size, 0, none⟩ = some (.int .i64 0) := (hb7.cell (p := ⟨w.heap.size, 0, none⟩) (by show w.heap.size < _; omega)).trans (cell_alloc_is _ u0)
     have fv0 : w7.frozen? ⟨w.heap.size, 0, none⟩ = false := (hb7.frozen (p := ⟨w.heap.size, 0, none⟩) (by show w.heap.size < _; omega)).trans ((frozen?_alloc_cells _ _ _ _).trans fu0)
     have v1 : w7.cell? ⟨w.heap.size, 1, none⟩ = some (.int .i64 0) := (hb7.cell (p := ⟨w.heap.size, 1, none⟩) (by show w.heap.size < _; omega)).trans (cell_alloc_is _ u1)
     have fv1 : w7.frozen? ⟨w.heap.size, 1, none⟩ = false := (hb7.frozen (p := ⟨w.heap.size, 1, none⟩) (by show w.heap.size < _; omega)).trans ((frozen?_alloc_cells _ _ _ _).trans fu1)
     have v2 : w7.cell? ⟨w.heap.size, 2, none⟩ = some (.int .i64 0) := (hb7.cell (p := ⟨w.heap.size, 2, none⟩) (by show w.heap.size < _; omega)).trans (cell_alloc_is _ u2)
     have fv2 : w7.frozen? ⟨w.heap.size, 2, none⟩ = false := (hb7.frozen (p := ⟨w.heap.size, 2, none⟩) (by show w.heap.size < _; omega)).trans ((frozen?_alloc_cells _ _ _ _).trans fu2)
     have hI7 : IsDeeds (w.heap.size + 1) w7.heap.size w7 (.slice a7 5 c7) (candsS l) := by rw [HCY.out]; exact IsDeeds.of_owns hown7
     have hln : (candsS l).length = 5 := by rw [HCY.out]; rfl
     have hB7 : Below w.heap.size w w7 := (hB3.alloc zO _).trans (hb7.mono zO)
     have HI7 := Lib.hid hI7
     have HLN := Lib.hid hln
     clear hb7 hgrow7 hat7 hown7 hI7 hln
     go_wp2_with fail
     go_meet
     case rel => exact ⟨a7, c7, by rw [HLN.out], by rw [HLN.out]; exact HI7.out, ⟨v0, v1, v2, fv0, fv1, fv2⟩, hw7, hB7⟩
   · have h3' : ¬ ((n : Int) = 3) := by omega
     have HCN := Lib.hid (cands_no (s := l) (by rw [HN.out]; exact h3))
     have HO := Lib.hid (deeds_row w1 (w.heap.size + 1) 40 zO)
     have hI := IsDeeds.of_owns HO.out
     rw [← HCN.out] at hI
     have hln : (candsS l).length = 4 := by rw [HCN.out]; rfl
     have HI := Lib.hid hI
     have HLN := Lib.hid hln
     clear hI hln h3
     go_wp2_with fail
     go_meet
     case rel =>
       refine ⟨_, _, by rw [HLN.out], by rw [HLN.out]; exact HI.out, ⟨by go_simp, by go_simp, by go_simp, by go_simp, by go_simp, by go_simp⟩, by simp; omega, hB1.alloc zO _⟩
 obtain ⟨a5, c5, rfl, hI, ⟨r0', r1', r2', fr0', fr1', fr2'⟩, hwx, hBx⟩ := hcut
 rename World => w5
 clear r0 r1 r2 fr0 fr1 fr2 hB1 HC
 obtain ⟨N, hN⟩ : ∃ N, (candsS l).length = N := ⟨_, rfl⟩
 have HNL := Lib.hid hN
 have hN5 : N ≤ 5 := by rw [← hN]; unfold candsS; split <;> simp
 rw [hN] at hI ⊢
 obtain ⟨_, _, he5, hC5, hs5⟩ := hI
 obtain ⟨rfl, rfl⟩ : a5 = _ ∧ c5 = _ := by injection he5 with h1 h2 h3; exact ⟨h1, h3⟩
 rcases hs5 with hs5 | ⟨g5, o5, rfl, hg5, hg5', hcl5, _⟩
 · rw [hs5] at hN; simp at hN; unfold candsS at hs5; simp at hs5
 · have HC5 := Lib.hid hcl5
   clear he5 hcl5 hN
   go_wp2_with fail
   go_loopw [10] (fun x wr => ∃ i : Nat, i ≤ N ∧ x = .int .i64 i ∧ (∀ j y, j < i → (candsS l)[j]? = some y → ¬ (l ≠ [] ∧ deedT y = l)) ∧ Below w5.heap.size w5 wr) (fun x _ => 6 - (intOf x).toNat)
   case atStart => exact ⟨0, Nat.zero_le _, rfl, fun j y hj => absurd hj zO, Below.refl _ _⟩
   case round =>
     obtain ⟨i, hi, rfl, hmiss, hB⟩ := hrel
     have HM := Lib.hid hmiss
     clear hmiss
     obtain ⟨hcB, hfB⟩ := bcell hB
     have q0 : wr.cell? ⟨w.heap.size, 0, none⟩ = some (.int .i64 0) := (hB.cell (p := ⟨w.heap.size, 0, none⟩) (by show w.heap.size < _; omega)).trans r0'
     have fq0 : wr.frozen? ⟨w.heap.size, 0, none⟩ = false := (hB.frozen (p := ⟨w.heap.size, 0, none⟩) (by show w.heap.size < _; omega)).trans fr0'
     have q1 : wr.cell? ⟨w.heap.size, 1, none⟩ = some (.int .i64 0) := (hB.cell (p := ⟨w.heap.size, 1, none⟩) (by show w.heap.size < _; omega)).trans r1'
     have fq1 : wr.frozen? ⟨w.heap.size, 1, none⟩ = false := (hB.frozen (p := ⟨w.heap.size, 1, none⟩) (by show w.heap.size < _; omega)).trans fr1'
     have q2 : wr.cell? ⟨w.heap.size, 2, none⟩ = some (.int .i64 0) := (hB.cell (p := ⟨w.heap.size, 2, none⟩) (by show w.heap.size < _; omega)).trans r2'
     have fq2 : wr.frozen? ⟨w.heap.size, 2, none⟩ = false := (hB.frozen (p := ⟨w.heap.size, 2, none⟩) (by show w.heap.size < _; omega)).trans fr2'
     have hzB := hB.size
     have hwr : w.heap.size < wr.heap.size := by omega
     by_cases hlt : i < N
     · have hil : (i : Int) < (N : Int) := by omega
       have hi00 : (0 : Int) ≤ (i : Int) := by omega
       have Wi : IntKind.i64.wrap ((i : Int) + 1) = (i : Int) + 1 := by rw [IntKind.wrap_i64]; omega
       obtain ⟨x, y, z, hp⟩ : ∃ x y z, (candsS l)[i]? = some ⟨x, y, z⟩ := ⟨_, _, _, List.getElem?_eq_getElem (by rw [HNL.out]; exact hlt)⟩
       have k0 : wr.cell? ⟨g5, o5 + i * 3, none⟩ = some (.int .i64 x) := (hB.cell (p := ⟨g5, o5 + i * 3, none⟩) (by show g5 < _; omega)).trans (HC5.out i _ hp).1
       have k1 : wr.cell? ⟨g5, o5 + i * 3 + 1, none⟩ = some (.int .i64 y) := (hB.cell (p := ⟨g5, o5 + i * 3 + 1, none⟩) (by show g5 < _; omega)).trans (HC5.out i _ hp).2.1
       have k2 : wr.cell? ⟨g5, o5 + i * 3 + 2, none⟩ = some (.int .i64 z) := (hB.cell (p := ⟨g5, o5 + i * 3 + 2, none⟩) (by show g5 < _; omega)).trans (HC5.out i _ hp).2.2
       have hg5w : g5 < wr.heap.size := by omega
       have HP := Lib.hid hp
       have HB := Lib.hid hB
       have hmore : ¬ (l ≠ [] ∧ deedT ⟨x, y, z⟩ = l) → ∀ j u, j < i + 1 → (candsS l)[j]? = some u → ¬ (l ≠ [] ∧ deedT u = l) := fun hno j u hj hu => by
         rcases Nat.lt_or_ge j i with h | h
         · exact HM.out j u h hu
         · have e : j = i := by omega
           rw [e, HP.out] at hu
           cases hu
           exact hno
       have HMORE := Lib.hid hmore
       clear hp hB hcB hfB hmore
       by_cases hle : l = []
       · have hse : s.toList.isEmpty = true := by rw [hsem, hle]; rfl
         have HX := Lib.hid (HMORE.out (fun e => e.1 hle))
         clear hle hsem
         go_wp2
         go_roundw
         case rel => exact ⟨i + 1, by omega, congrArg (Value.int .i64) zO, HX.out, HB.out⟩
         case measure => simp [intOf]; omega
       · have hse : s.toList.isEmpty = false := by
           rw [hsem]
           cases l with
           | nil => exact absurd rfl hle
           | cons _ _ => rfl
         have hq := HSEQ.out (txt (deedT ⟨x, y, z⟩))
         rw [txt_list] at hq
         by_cases hd : deedT ⟨x, y, z⟩ = l
         · have hq' : ((txt (deedT ⟨x, y, z⟩)).toList == s.toList) = true := by rw [hq, hd]; simp
           have HV := Lib.hid (cands_hit hle hd)
           clear hq hd hle hsem
           obtain ⟨Tx, hTx⟩ : ∃ Tx, txt (deedT ⟨x, y, z⟩) = Tx := ⟨_, rfl⟩
           have hdt := fun W => specText_any x y z W
           rw [hTx] at hq' hdt
           have HDT := Lib.hid hdt
           clear hTx hdt
           go_wp2_with fail
           refine (HDT.out _).mono ?_
           rintro e w6 ⟨rfl, hb6⟩
           obtain ⟨hc6, hf6⟩ := bcell hb6
           go_wp2
           refine bodyPost_ret (v := .tuple #[.agg #[.int .i64 x, .int .i64 y, .int .i64 z], .bool true]) (by simp [results, Tryz.results45, go_sem]; go_simp) rfl ⟨by rw [HV.out], ?_⟩
           exact (((hBx.trans (HB.out.mono zO)).trans (hb6.mono zO)).setCell (p := ⟨w.heap.size, 0, none⟩) (Nat.le_refl _) _ |>.setCell (p := ⟨w.heap.size, 1, none⟩) (Nat.le_refl _) _).setCell (p := ⟨w.heap.size, 2, none⟩) (Nat.le_refl _) _
         · have hq' : ((txt (deedT ⟨x, y, z⟩)).toList == s.toList) = false := by rw [hq]; exact beq_eq_false_iff_ne.2 hd
           have HX := Lib.hid (HMORE.out (fun e => hd e.2))
           clear hq hd hle hsem
           obtain ⟨Tx, hTx⟩ : ∃ Tx, txt (deedT ⟨x, y, z⟩) = Tx := ⟨_, rfl⟩
           have hdt := fun W => specText_any x y z W
           rw [hTx] at hq' hdt
           have HDT := Lib.hid hdt
           clear hTx hdt
           go_wp2_with fail
           refine (HDT.out _).mono ?_
           rintro e w6 ⟨rfl, hb6⟩
           go_wp2
           go_roundw
           case rel => exact ⟨i + 1, by omega, congrArg (Value.int .i64) zO, HX.out, HB.out.trans (hb6.mono zO)⟩
           case measure => simp [intOf]; omega
     · obtain rfl : i = N := by omega
       have HV := Lib.hid (cands_miss (s := l) (fun y hy => by
         obtain ⟨j, hj, e⟩ := List.mem_iff_getElem.1 hy
         exact HM.out j y (by rw [← HNL.out]; exact hj) (by rw [List.getElem?_eq_getElem hj, e])))
       have HB := Lib.hid hB
       clear hB
       go_wp2
       refine bodyPost_ret (v := .tuple #[.agg #[.int .i64 0, .int .i64 0, .int .i64 0], .bool false]) (by simp [results, Tryz.results45, go_sem]; go_simp) rfl ⟨by rw [HV.out], ?_⟩
       exact (((hBx.trans (HB.out.mono zO)).setCell (p := ⟨w.heap.size, 0, none⟩) (Nat.le_refl _) _).setCell (p := ⟨w.heap.size, 1, none⟩) (Nat.le_refl _) _).setCell (p := ⟨w.heap.size, 2, none⟩) (Nat.le_refl _) _
end
section
open Go.RowKit
theorem deedV_some {s : List UInt8} {x : DeedN} (h : readN s = some x) : deedV s = (x, true) := by unfold deedV; rw [h]
theorem deedV_none {s : List UInt8} (h : readN s = none) : deedV s = (⟨0, 0, 0⟩, false) := by unfold deedV; rw [h]
end
section
open Go.RowKit
theorem own_grows {w w' : World} {base R : Nat} {e : TypeId} {size : Nat} {v : Value} {n : Nat} {xs : List Value} (h : w.ownsRow base e size v n xs) (hg : w.grownBy w' (some R)) (hR : R < base) : w'.ownsRow base e size v n xs :=
 h.kept hg (by
   cases hv : v.ownBlock with
   | none => exact .inl rfl
   | some g => exact .inr (fun e => by injection e with e; have := (h.lt g hv).1; omega))
theorem rd_under {w w' : World} {R k D : Nat} (h : Rd w R k) (hb : Below D w w') (hD : R < D) : Rd w' R k := by
 obtain ⟨a, len, cap, p, h0, h1, hf, hp, hl, hs⟩ := h
 refine ⟨a, len, cap, p, (hb.cell (p := ⟨R, 0, none⟩) (by show R < D; omega)).trans h0, (hb.cell (p := ⟨R, 1, none⟩) (by show R < D; omega)).trans h1, (hb.frozen (p := ⟨R, 1, none⟩) (by show R < D; omega)).trans hf, hp, hl, ?_⟩
 rcases hs with hs | ⟨b, off, ha, hbR, hc⟩
 · exact .inl hs
 · refine .inr ⟨b, off, ha, hbR, fun i hi => ?_⟩
   obtain ⟨x, x0, x1, hx⟩ := hc i hi
   exact ⟨x, x0, x1, (hb.cell (p := ⟨b, off + i, none⟩) (by show b < D; omega)).trans hx⟩
theorem gr_own {w w1 w2 : World} {R : Nat} {row : Option Nat} (h : w.grownBy w1 (some R)) (k : w1.grownBy w2 row) (hr : ∀ g, row = some g → w.heap.size ≤ g) : w.grownBy w2 (some R) :=
 ⟨k.os.trans h.os, k.tape.trans h.tape, k.output.trans h.output, Nat.le_trans h.size k.size, fun j hj hne => (k.block j (Nat.lt_of_lt_of_le hj h.size) (fun e => by have := hr j e.symm; omega)).trans (h.block j hj hne)⟩
end
end Go.Proofs.YtblphilcmfabkaaGreatDoor
