/- Contracts and laws that the statement's proof stands on, one text behind the other. -/
import Derived.Test.YtblphilcmfabkaaGreatDoorAla4
import Derived.Test.YtblphilcmfabkaaGreatDoorAlb0

namespace Go.Proofs.YtblphilcmfabkaaGreatDoor
section
open Go.RowKit
theorem implOk_is (B C : Nat) (p q : Int) (L : List (Int × Int)) (v : Value) (w : World) (h : IsPairs B C w v L) (hn : L.length ≤ 1048600) (b : Bool) (hb : deskN ⟨(p, q), L⟩ = b) : Calls Tryz.prog 23 #[.agg #[.int .i64 p, .int .i64 q, v]] w fun e w' => e = .returned (.bool b) ∧ Below w.heap.size w w' := by rw [← hb]; exact implDeskOk_any B C p q L v w h hn
theorem specOk_is (B C : Nat) (p q : Int) (L : List (Int × Int)) (v : Value) (w : World) (h : IsPairs B C w v L) (hn : L.length ≤ 1048600) (b : Bool) (hb : deskN ⟨(p, q), L⟩ = b) : Calls Tryz.prog 13 #[.agg #[.int .i64 p, .int .i64 q, v]] w fun e w' => e = .returned (.bool b) ∧ Below w.heap.size w w' := by rw [← hb]; exact specDeskOk_any B C p q L v w h hn
theorem sameDesk_yes (B C B' C' : Nat) (p q : Int) (v u : Value) (L : List (Int × Int)) (w : World) (h : IsPairs B C w v L) (k : IsPairs B' C' w u L) (hn : L.length ≤ 1048600) :
   Calls Tryz.prog 18 #[.agg #[.int .i64 p, .int .i64 q, v], .agg #[.int .i64 p, .int .i64 q, u]] w fun e w' => e = .returned (.bool true) ∧ Below w.heap.size w w' := by
 have := sameDesk_any B C B' C' p q p q v u L L w h k hn hn
 rwa [deskEq_yes rfl] at this
end
section
open Go.RowKit
theorem rd_drewE {w : World} {R k : Nat} (h : Rd w R k) : Rd w.drew R k := h
def TextDrawn (w : World) (R k n : Nat) (e : Ending) (w' : World) : Prop := ∃ t : ByteArray, e = .returned (.string t) ∧ t.size ≤ n ∧ Rd w' R k ∧ w.grownBy w' (some R)
theorem deedT_len (x : DeedN) : (deedT x).length ≤ 12 := by
 unfold deedT
 have h1 := digN_len x.a
 have h2 := digN_len x.b
 split
 · split
   · simp only [List.length_append, List.length_cons, List.length_nil]; omega
   · simp
 · split
   · split
     · simp
     · split
       · simp
       · split
         · simp
         · split <;> simp
   · simp
end
section
open Go.RowKit
theorem wrap_most (x : Int) : IntKind.i64.wrap x ≤ 9223372036854775807 := by rw [IntKind.wrap_i64]; omega
set_option maxRecDepth 100000 in
set_option maxHeartbeats 8000000 in
theorem l20FarB_any (R k : Nat) (w : World) (h : Rd w R k) (hk : k ≤ 1000000) :
   Calls Tryz.prog 95 #[.pointer (some ⟨R, 0, none⟩)] w fun e w' => ∃ v : Int, e = .returned (.int .i64 v) ∧ v ≤ 9223372036854775807 ∧ Rd w' R (k + 7) ∧ w.grownBy w' (some R) := by
 have hRlt := h.lt
 have hsel := four_at
 go_enter Tryz.func95, Tryz.ntmps95
 go_wp2_with fail
 go_region_with ((go_at_call 41; refine (pick_any R _ _ _ (by first | assumption | exact Rd.alloc (by assumption) _ | exact Rd.below (by assumption) (by assumption) (Nat.le_refl _)) zO zO).mono ?_; rintro e wz ⟨v, rfl, va, vb, hRz, hhz⟩; (try (have vq : v ≤ 7 := zO; have vq0 : 0 ≤ v / 2 := zO; have vq1 : v / 2 < 4 := zO; have vt : v.tdiv 2 = v / 2 := Int.tdiv_eq_ediv_of_nonneg va; have vw : IntKind.i64.wrap (v / 2) = v / 2 := (by rw [IntKind.wrap_i64]; omega))); clear vb; obtain ⟨hcz, hfz⟩ := gcell hhz; have hst := fun b (h : b < _) => Nat.lt_of_lt_of_le h hhz.size; have hzz := hhz.size; (try simp at hzz); (try have hzs := Nat.lt_of_succ_le hzz); have hne : ¬ wz.heap.size = R := (by have := hRz.lt; omega)))
 all_goals go_wp2
 all_goals go_ret
 all_goals exact ⟨_, rfl, wrap_most _, Rd.mono (by first | assumption | exact Rd.alloc (by assumption) _ | exact Rd.below (by assumption) (by assumption) (Nat.le_refl _)) zO, by (repeat (first | exact gr_refl _ _ | refine gr_drew ?_ | refine gr_alloc ?_ _ | refine gr_trans ?_ (by assumption)))⟩
end
section
open Go.RowKit
theorem texts_two (w : World) (t : TypeId) : ∀ i, i < 2 → ∃ x : ByteArray, (w.alloc (.cells #[.string ⟨#[112, 97, 105, 114]⟩, .string ⟨#[119, 101, 105, 103, 104, 116]⟩] t)).cell? ⟨w.heap.size, i, none⟩ = some (.string x) ∧ x.size ≤ 20 := by
 intro i hi
 rcases (show i = 0 ∨ i = 1 by omega) with rfl | rfl <;> exact ⟨_, World.cell?_alloc_mark _ _ _ _ _, by decide⟩
theorem texts_many (w : World) (t : TypeId) : ∀ i, i < 16 → ∃ x : ByteArray, (w.alloc (.cells #[.string ⟨#[]⟩, .string ⟨#[116, 97, 107, 101]⟩, .string ⟨#[116, 97, 107, 101, 32, 49]⟩, .string ⟨#[116, 97, 107, 101, 32, 53, 32, 48]⟩, .string ⟨#[116, 97, 107, 101, 32, 49, 32, 120]⟩, .string ⟨#[102, 105, 114, 115, 116]⟩, .string ⟨#[102, 105, 114, 115, 116, 32, 120]⟩, .string ⟨#[102, 105, 114, 115, 116, 32, 50, 49]⟩, .string ⟨#[114, 97, 110, 107, 32, 48]⟩, .string ⟨#[102, 97, 114, 32, 49]⟩, .string ⟨#[102, 97, 114, 32, 49, 32, 48]⟩, .string ⟨#[99, 105, 114, 99, 108, 101, 32, 49, 48, 49, 32, 49]⟩, .string ⟨#[32, 112, 97, 105, 114]⟩, .string ⟨#[117, 112, 32, 49]⟩, .string ⟨#[119, 114, 105, 116, 116, 101, 110, 32, 49, 48, 48, 48, 49]⟩, .string ⟨#[102, 105, 114, 115, 116, 32, 45, 49]⟩] t)).cell? ⟨w.heap.size, i, none⟩ = some (.string x) ∧ x.size ≤ 20 := by
 intro i hi
 rcases (show i = 0 ∨ i = 1 ∨ i = 2 ∨ i = 3 ∨ i = 4 ∨ i = 5 ∨ i = 6 ∨ i = 7 ∨ i = 8 ∨ i = 9 ∨ i = 10 ∨ i = 11 ∨ i = 12 ∨ i = 13 ∨ i = 14 ∨ i = 15 by omega) with rfl | rfl | rfl | rfl | rfl | rfl | rfl | rfl | rfl | rfl | rfl | rfl | rfl | rfl | rfl | rfl <;> exact ⟨_, World.cell?_alloc_mark _ _ _ _ _, by decide⟩
theorem texts_six (w : World) (t : TypeId) : ∀ i, i < 6 → ∃ x : ByteArray, (w.alloc (.cells #[.string ⟨#[102, 105, 114, 115, 116, 32]⟩, .string ⟨#[115, 101, 99, 111, 110, 100, 32]⟩, .string ⟨#[114, 97, 110, 107, 32]⟩, .string ⟨#[112, 101, 114, 105, 111, 100, 32]⟩, .string ⟨#[112, 97, 115, 115, 101, 115, 32]⟩, .string ⟨#[119, 114, 105, 116, 116, 101, 110, 32]⟩] t)).cell? ⟨w.heap.size, i, none⟩ = some (.string x) ∧ x.size ≤ 20 := by
 intro i hi
 rcases (show i = 0 ∨ i = 1 ∨ i = 2 ∨ i = 3 ∨ i = 4 ∨ i = 5 by omega) with rfl | rfl | rfl | rfl | rfl | rfl <;> exact ⟨_, World.cell?_alloc_mark _ _ _ _ _, by decide⟩
def linP (R : Nat) (j : Nat) (v : Value) (w : World) : Prop :=
 match j with
 | 0 => ∃ b, v = .slice (some ⟨b, 0, none⟩) 6 6 ∧ b ≠ R ∧ b < w.heap.size ∧ ∀ i, i < 6 → ∃ x : ByteArray, w.cell? ⟨b, i, none⟩ = some (.string x) ∧ x.size ≤ 20
 | 1 => v = .pointer (some ⟨R, 0, none⟩)
 | 2 => ∃ n : Int, v = .int .i64 n ∧ 0 ≤ n ∧ n ≤ 5
 | 3 => ∃ (b i : Nat) (x : ByteArray), v = .pointer (some ⟨b, i, none⟩) ∧ b ≠ R ∧ b < w.heap.size ∧ w.cell? ⟨b, i, none⟩ = some (.string x) ∧ x.size ≤ 20
 | 4 => ∃ x, v = .string x ∧ x.size ≤ 20
 | 5 => v = .pointer (some ⟨R, 0, none⟩)
 | 6 => ∃ n : Int, v = .int .i64 n ∧ 0 ≤ n ∧ n ≤ 59
 | 7 => ∃ x, v = .string x ∧ x.size ≤ 100
 | 8 => ∃ x, v = .string x ∧ x.size ≤ 200
 | _ => ∃ x, v = .string x ∧ x.size ≤ 200
theorem linP_mono (R : Nat) (j : Nat) (v : Value) (w w' : World) (hg : w.grownBy w' (some R)) (h : linP R j v w) : linP R j v w' := by
 unfold linP at *
 split at h
 · obtain ⟨b, e, h1, h2, h3⟩ := h
   refine ⟨b, e, h1, Nat.lt_of_lt_of_le h2 hg.size, fun i hi => ?_⟩
   obtain ⟨x, hx, hs⟩ := h3 i hi
   exact ⟨x, ((gcell hg).1 b i h2 h1).trans hx, hs⟩
 · exact h
 · exact h
 · obtain ⟨b, i, x, e, h1, h2, h3, h4⟩ := h
   exact ⟨b, i, x, e, h1, Nat.lt_of_lt_of_le h2 hg.size, ((gcell hg).1 b i h2 h1).trans h3, h4⟩
 · exact h
 · exact h
 · exact h
 · exact h
 · exact h
 · exact h
set_option linter.unusedSimpArgs false in
set_option maxRecDepth 100000 in
set_option maxHeartbeats 8000000 in
theorem l20Line_any (R m : Nat) (w : World) (h : Rd w R m) (hm : m ≤ 800000) : Calls Tryz.prog 61 #[.pointer (some ⟨R, 0, none⟩)] w (TextDrawn w R (m + 10) 1000) := by
 have hen : ∀ (args : Array Value) (w : World), (callFunc 41 args).run Tryz.prog w = .ok (.enter 41 args) w := enters_of Tryz.func41 (by kernel_rfl) rfl
 have hen2 : ∀ (args : Array Value) (w : World), (callFunc 64 args).run Tryz.prog w = .ok (.enter 64 args) w := enters_of Tryz.func64 (by kernel_rfl) rfl
 go_enter Tryz.func61, Tryz.ntmps61
 go_wp2_with fail
 refine (pick_any R m 7 _ h zO zO).mono ?_
 rintro e w1 ⟨v, rfl, va, vb, hR1, hh1⟩
 have v6 : v ≤ 6 := by omega
 clear vb h
 rcases seven va v6 with rfl | rfl | rfl | rfl | rfl | rfl | rfl
 · go_wp2_with fail
   refine (pick_any R (m + 1) 2 _ (hR1.alloc _) zO zO).mono ?_
   rintro e w2 ⟨v2, rfl, va2, vb2, hR2, hh2⟩
   obtain ⟨k, rfl⟩ : ∃ k : Nat, v2 = (k : Int) := ⟨v2.toNat, by omega⟩
   have hk : k < 2 := by omega
   have hki : (k : Int) < 2 := by omega
   have hk0 : (0 : Int) ≤ (k : Int) := by omega
   obtain ⟨t, ht, hts⟩ := texts_two w1 9 k hk
   have hc := ((gcell hh2).1 w1.heap.size k (by simp) (by have := hR1.lt; omega)).trans ht
   have HG := Lib.hid (gr_trans (gr_alloc hh1 _) hh2)
   clear ht hh1 hh2 va2 vb2
   go_wp2
   go_ret
   exact ⟨t, rfl, by omega, hR2.mono zO, HG.out⟩
 · go_wp2_with fail
   refine (pick_any R (m + 1) 16 _ (hR1.alloc _) zO zO).mono ?_
   rintro e w2 ⟨v2, rfl, va2, vb2, hR2, hh2⟩
   obtain ⟨k, rfl⟩ : ∃ k : Nat, v2 = (k : Int) := ⟨v2.toNat, by omega⟩
   have hk : k < 16 := by omega
   have hki : (k : Int) < 16 := by omega
   have hk0 : (0 : Int) ≤ (k : Int) := by omega
   obtain ⟨t, ht, hts⟩ := texts_many w1 9 k hk
   have hc := ((gcell hh2).1 w1.heap.size k (by simp) (by have := hR1.lt; omega)).trans ht
   have HG := Lib.hid (gr_trans (gr_alloc hh1 _) hh2)
   clear ht hh1 hh2 va2 vb2
   go_wp2
   go_ret
   exact ⟨t, rfl, by omega, hR2.mono zO, HG.out⟩
 · go_wp2_with fail
   rename_i K hK
   refine wp_region_stores (PP := linP R) (Grow := fun a b => a.grownBy b (some R)) (G := fun l w' => w.grownBy w' (some R) ∧ Rd w' R (m + 1 + indD l 2 + indD l 6)) (by kernel_rfl) (dis_of2 (by kernel_rfl)) (b_of (by kernel_rfl)) (back_of (by kernel_rfl)) (fun j u w1 w2 hg hp => linP_mono R j u w1 w2 hg hp) ⟨gr_drew hh1, rd_drewE (hR1.mono zO)⟩ ?step ?fin
   case step =>
     intro i o hi listed a w1 hS hG hall hl
     have hi10 : i < 10 := (Array.getElem?_eq_some_iff.1 hi).1
     rcases (show i = 0 ∨ i = 1 ∨ i = 2 ∨ i = 3 ∨ i = 4 ∨ i = 5 ∨ i = 6 ∨ i = 7 ∨ i = 8 ∨ i = 9 by omega) with rfl | rfl | rfl | rfl | rfl | rfl | rfl | rfl | rfl | rfl
     · obtain rfl := Option.some.inj hi
       refine op_value (v := .slice (some ⟨w1.heap.size, 0, none⟩) 6 6) (w' := w1.alloc (.cells #[.string ⟨#[102, 105, 114, 115, 116, 32]⟩, .string ⟨#[115, 101, 99, 111, 110, 100, 32]⟩, .string ⟨#[114, 97, 110, 107, 32]⟩, .string ⟨#[112, 101, 114, 105, 111, 100, 32]⟩, .string ⟨#[112, 97, 115, 115, 101, 115, 32]⟩, .string ⟨#[119, 114, 105, 116, 116, 101, 110, 32]⟩] 9)) rfl rfl (by intro ev ht hc hf; simp [execOp, hc, hf, go_sem]; try go_simp) ⟨.inl ⟨_, 22, rfl, rfl, ⟨w1.heap.size, rfl, by have := hG.2.lt; omega, by simp, texts_six w1 _⟩⟩, gr_alloc (gr_refl _ _) _, gr_alloc hG.1 _, by rw [indD_other zd, indD_other zd]; exact hG.2.alloc _⟩
     · obtain rfl := Option.some.inj hi
       have e0 : a.eval (.tmp 0) = .pointer (some ⟨R, 0, none⟩) := hS.2.2.1 0 (noDst_of (by kernel_rfl))
       refine op_value (v := .pointer (some ⟨R, 0, none⟩)) (w' := w1) rfl rfl (by intro ev ht hc hf; rw [← ht] at e0; simp [execOp, hc, hf, e0, go_sem]) ⟨.inl ⟨_, 23, rfl, rfl, rfl⟩, gr_refl _ _, ⟨hG.1, by rw [indD_other zd, indD_other zd]; exact hG.2⟩⟩
     · obtain rfl := Option.some.inj hi
       have P1 := hS.2.2.2 1 _ 23 rfl rfl (hall { on := 1, ground := .data } (by simp) rfl)
       replace P1 : a.eval (.tmp 23) = .pointer (some ⟨R, 0, none⟩) := P1
       refine op_enter rfl rfl (f := 41) (args := #[.pointer (some ⟨R, 0, none⟩), .int .i64 6]) (w' := w1) (by intro ev ht hc hf; rw [← ht] at P1; simp [execOp, hc, hf, P1, go_sem, hen]) ?_
       refine (pick_any R (m + 1 + indD listed 2 + indD listed 6) 6 w1 hG.2 (by have := indD_le listed 2; have := indD_le listed 6; omega) zO).mono ?_
       rintro e w2 ⟨v, rfl, va, vb, hR, hg⟩
       exact ⟨_, rfl, .inl ⟨_, 24, rfl, rfl, ⟨v, rfl, va, by show v ≤ (5 : Int); omega⟩⟩, hg, gr_trans hG.1 hg, by rw [indD_self hl, indD_other zd]; exact hR.mono zO⟩
     · obtain rfl := Option.some.inj hi
       have P0 := hS.2.2.2 0 _ 22 rfl rfl (hall { on := 0, ground := .data } (by simp) rfl)
       obtain ⟨b, eb, hbR, hbl, hbc⟩ := P0
       have P2 := hS.2.2.2 2 _ 24 rfl rfl (hall { on := 2, ground := .data } (by simp) rfl)
       obtain ⟨n2, e2, l2, h2⟩ := P2
       have hb6 : n2 < 6 := by omega
       obtain ⟨t, ht6, hts⟩ := hbc n2.toNat zO
       refine op_value (v := .pointer (some ⟨b, n2.toNat, none⟩)) (w' := w1) rfl rfl (by intro ev ht hc hf; rw [← ht] at eb e2; simp [execOp, hc, hf, eb, e2, go_sem, l2, hb6]) ⟨.inl ⟨_, 25, rfl, rfl, ⟨b, n2.toNat, t, rfl, hbR, hbl, ht6, hts⟩⟩, gr_refl _ _, ⟨hG.1, by rw [indD_other zd, indD_other zd]; exact hG.2⟩⟩
     · obtain rfl := Option.some.inj hi
       have P3 := hS.2.2.2 3 _ 25 rfl rfl (hall { on := 3, ground := .data } (by simp) rfl)
       obtain ⟨b, i, t, eb, hbR, hbl, hbc, hts⟩ := P3
       refine op_value (v := .string t) (w' := w1) rfl rfl (by intro ev ht hc hf; rw [← ht] at eb; simp [execOp, hc, hf, eb, hbc, go_sem]) ⟨.inl ⟨_, 26, rfl, rfl, ⟨t, rfl, hts⟩⟩, gr_refl _ _, ⟨hG.1, by rw [indD_other zd, indD_other zd]; exact hG.2⟩⟩
     · obtain rfl := Option.some.inj hi
       have e0 : a.eval (.tmp 0) = .pointer (some ⟨R, 0, none⟩) := hS.2.2.1 0 (noDst_of (by kernel_rfl))
       refine op_value (v := .pointer (some ⟨R, 0, none⟩)) (w' := w1) rfl rfl (by intro ev ht hc hf; rw [← ht] at e0; simp [execOp, hc, hf, e0, go_sem]) ⟨.inl ⟨_, 27, rfl, rfl, rfl⟩, gr_refl _ _, ⟨hG.1, by rw [indD_other zd, indD_other zd]; exact hG.2⟩⟩
     · obtain rfl := Option.some.inj hi
       have P5 := hS.2.2.2 5 _ 27 rfl rfl (hall { on := 5, ground := .data } (by simp) rfl)
       replace P5 : a.eval (.tmp 27) = .pointer (some ⟨R, 0, none⟩) := P5
       refine op_enter rfl rfl (f := 41) (args := #[.pointer (some ⟨R, 0, none⟩), .int .i64 60]) (w' := w1) (by intro ev ht hc hf; rw [← ht] at P5; simp [execOp, hc, hf, P5, go_sem, hen]) ?_
       refine (pick_any R (m + 1 + indD listed 2 + indD listed 6) 60 w1 hG.2 (by have := indD_le listed 2; have := indD_le listed 6; omega) zO).mono ?_
       rintro e w2 ⟨v, rfl, va, vb, hR, hg⟩
       exact ⟨_, rfl, .inl ⟨_, 28, rfl, rfl, ⟨v, rfl, va, by show v ≤ (59 : Int); omega⟩⟩, hg, gr_trans hG.1 hg, by rw [indD_other zd, indD_self hl]; exact hR.mono zO⟩
     · obtain rfl := Option.some.inj hi
       have P6 := hS.2.2.2 6 _ 28 rfl rfl (hall { on := 6, ground := .data } (by simp) rfl)
       obtain ⟨n6, e6, l6, h6⟩ := P6
       refine op_enter rfl rfl (f := 64) (args := #[.int .i64 n6]) (w' := w1) (by intro ev ht hc hf; rw [← ht] at e6; simp [execOp, hc, hf, e6, go_sem, hen2]) ?_
       refine (number_any n6 w1 zO zO).mono ?_
       rintro e w2 ⟨rfl, hb⟩
       exact ⟨_, rfl, .inl ⟨_, 29, rfl, rfl, ⟨_, rfl, numberT_size (show Small n6 from ⟨by omega, by omega⟩)⟩⟩, gr_below (gr_refl _ _) hb, gr_below hG.1 hb, by rw [indD_other zd, indD_other zd]; exact hG.2.below hb (Nat.le_refl _)⟩
     · obtain rfl := Option.some.inj hi
       have P4 := hS.2.2.2 4 _ 26 rfl rfl (hall { on := 4, ground := .data } (by simp) rfl)
       obtain ⟨x, ex, hx⟩ := P4
       have P7 := hS.2.2.2 7 _ 29 rfl rfl (hall { on := 7, ground := .data } (by simp) rfl)
       obtain ⟨t, et, hts⟩ := P7
       have hcat : ¬ 9223372036854775807 < x.size + t.size := by omega
       refine op_value (v := .string (x ++ t)) (w' := w1) rfl rfl (by intro ev ht hc hf; rw [← ht] at ex et; simp [execOp, hc, hf, ex, et, go_sem, hcat]) ⟨.inl ⟨_, 30, rfl, rfl, ⟨_, rfl, by rw [ByteArray.size_append]; omega⟩⟩, gr_refl _ _, ⟨hG.1, by rw [indD_other zd, indD_other zd]; exact hG.2⟩⟩
     · obtain rfl := Option.some.inj hi
       have P8 := hS.2.2.2 8 _ 30 rfl rfl (hall { on := 8, ground := .data } (by simp) rfl)
       obtain ⟨x, ex, hx⟩ := P8
       refine op_value (v := .string x) (w' := w1) rfl rfl (by intro ev ht hc hf; rw [← ht] at ex; simp [execOp, hc, hf, ex, go_sem]) ⟨.inl ⟨_, 2, rfl, rfl, ⟨x, rfl, hx⟩⟩, gr_refl _ _, ⟨hG.1, by rw [indD_other zd, indD_other zd]; exact hG.2⟩⟩
   case fin =>
     intro listed a w1 hall hS hG
     obtain ⟨x, e2, hx⟩ := hS.2.2.2 9 _ 2 rfl rfl (hall 9 zd)
     have e2' : a.tmps.getD 2 undef = .string x := e2
     have hd : a.defers = [] := hS.1
     refine hK _ _ ?_
     clear hK hS hall
     go_wp2_with fail
     refine bodyPost_ret (v := .string x) ((results_tmp Tryz.results61 _ _ _).trans (by rw [e2'])) hd ⟨x, rfl, by omega, hG.2.mono (by have := indD_le listed 2; have := indD_le listed 6; omega), hG.1⟩
 · go_wp2_with fail
   rename_i K hK
   refine wp_region_stores (PP := linP R) (Grow := fun a b => a.grownBy b (some R)) (G := fun l w' => w.grownBy w' (some R) ∧ Rd w' R (m + 1 + indD l 2 + indD l 6)) (by kernel_rfl) (dis_of2 (by kernel_rfl)) (b_of (by kernel_rfl)) (back_of (by kernel_rfl)) (fun j u w1 w2 hg hp => linP_mono R j u w1 w2 hg hp) ⟨gr_drew hh1, rd_drewE (hR1.mono zO)⟩ ?step ?fin
   case step =>
     intro i o hi listed a w1 hS hG hall hl
     have hi10 : i < 10 := (Array.getElem?_eq_some_iff.1 hi).1
     rcases (show i = 0 ∨ i = 1 ∨ i = 2 ∨ i = 3 ∨ i = 4 ∨ i = 5 ∨ i = 6 ∨ i = 7 ∨ i = 8 ∨ i = 9 by omega) with rfl | rfl | rfl | rfl | rfl | rfl | rfl | rfl | rfl | rfl
     · obtain rfl := Option.some.inj hi
       refine op_value (v := .slice (some ⟨w1.heap.size, 0, none⟩) 6 6) (w' := w1.alloc (.cells #[.string ⟨#[102, 105, 114, 115, 116, 32]⟩, .string ⟨#[115, 101, 99, 111, 110, 100, 32]⟩, .string ⟨#[114, 97, 110, 107, 32]⟩, .string ⟨#[112, 101, 114, 105, 111, 100, 32]⟩, .string ⟨#[112, 97, 115, 115, 101, 115, 32]⟩, .string ⟨#[119, 114, 105, 116, 116, 101, 110, 32]⟩] 9)) rfl rfl (by intro ev ht hc hf; simp [execOp, hc, hf, go_sem]; try go_simp) ⟨.inl ⟨_, 22, rfl, rfl, ⟨w1.heap.size, rfl, by have := hG.2.lt; omega, by simp, texts_six w1 _⟩⟩, gr_alloc (gr_refl _ _) _, gr_alloc hG.1 _, by rw [indD_other zd, indD_other zd]; exact hG.2.alloc _⟩
     · obtain rfl := Option.some.inj hi
       have e0 : a.eval (.tmp 0) = .pointer (some ⟨R, 0, none⟩) := hS.2.2.1 0 (noDst_of (by kernel_rfl))
       refine op_value (v := .pointer (some ⟨R, 0, none⟩)) (w' := w1) rfl rfl (by intro ev ht hc hf; rw [← ht] at e0; simp [execOp, hc, hf, e0, go_sem]) ⟨.inl ⟨_, 23, rfl, rfl, rfl⟩, gr_refl _ _, ⟨hG.1, by rw [indD_other zd, indD_other zd]; exact hG.2⟩⟩
     · obtain rfl := Option.some.inj hi
       have P1 := hS.2.2.2 1 _ 23 rfl rfl (hall { on := 1, ground := .data } (by simp) rfl)
       replace P1 : a.eval (.tmp 23) = .pointer (some ⟨R, 0, none⟩) := P1
       refine op_enter rfl rfl (f := 41) (args := #[.pointer (some ⟨R, 0, none⟩), .int .i64 6]) (w' := w1) (by intro ev ht hc hf; rw [← ht] at P1; simp [execOp, hc, hf, P1, go_sem, hen]) ?_
       refine (pick_any R (m + 1 + indD listed 2 + indD listed 6) 6 w1 hG.2 (by have := indD_le listed 2; have := indD_le listed 6; omega) zO).mono ?_
       rintro e w2 ⟨v, rfl, va, vb, hR, hg⟩
       exact ⟨_, rfl, .inl ⟨_, 24, rfl, rfl, ⟨v, rfl, va, by show v ≤ (5 : Int); omega⟩⟩, hg, gr_trans hG.1 hg, by rw [indD_self hl, indD_other zd]; exact hR.mono zO⟩
     · obtain rfl := Option.some.inj hi
       have P0 := hS.2.2.2 0 _ 22 rfl rfl (hall { on := 0, ground := .data } (by simp) rfl)
       obtain ⟨b, eb, hbR, hbl, hbc⟩ := P0
       have P2 := hS.2.2.2 2 _ 24 rfl rfl (hall { on := 2, ground := .data } (by simp) rfl)
       obtain ⟨n2, e2, l2, h2⟩ := P2
       have hb6 : n2 < 6 := by omega
       obtain ⟨t, ht6, hts⟩ := hbc n2.toNat zO
       refine op_value (v := .pointer (some ⟨b, n2.toNat, none⟩)) (w' := w1) rfl rfl (by intro ev ht hc hf; rw [← ht] at eb e2; simp [execOp, hc, hf, eb, e2, go_sem, l2, hb6]) ⟨.inl ⟨_, 25, rfl, rfl, ⟨b, n2.toNat, t, rfl, hbR, hbl, ht6, hts⟩⟩, gr_refl _ _, ⟨hG.1, by rw [indD_other zd, indD_other zd]; exact hG.2⟩⟩
     · obtain rfl := Option.some.inj hi
       have P3 := hS.2.2.2 3 _ 25 rfl rfl (hall { on := 3, ground := .data } (by simp) rfl)
       obtain ⟨b, i, t, eb, hbR, hbl, hbc, hts⟩ := P3
       refine op_value (v := .string t) (w' := w1) rfl rfl (by intro ev ht hc hf; rw [← ht] at eb; simp [execOp, hc, hf, eb, hbc, go_sem]) ⟨.inl ⟨_, 26, rfl, rfl, ⟨t, rfl, hts⟩⟩, gr_refl _ _, ⟨hG.1, by rw [indD_other zd, indD_other zd]; exact hG.2⟩⟩
     · obtain rfl := Option.some.inj hi
       have e0 : a.eval (.tmp 0) = .pointer (some ⟨R, 0, none⟩) := hS.2.2.1 0 (noDst_of (by kernel_rfl))
       refine op_value (v := .pointer (some ⟨R, 0, none⟩)) (w' := w1) rfl rfl (by intro ev ht hc hf; rw [← ht] at e0; simp [execOp, hc, hf, e0, go_sem]) ⟨.inl ⟨_, 27, rfl, rfl, rfl⟩, gr_refl _ _, ⟨hG.1, by rw [indD_other zd, indD_other zd]; exact hG.2⟩⟩
     · obtain rfl := Option.some.inj hi
       have P5 := hS.2.2.2 5 _ 27 rfl rfl (hall { on := 5, ground := .data } (by simp) rfl)
       replace P5 : a.eval (.tmp 27) = .pointer (some ⟨R, 0, none⟩) := P5
       refine op_enter rfl rfl (f := 41) (args := #[.pointer (some ⟨R, 0, none⟩), .int .i64 60]) (w' := w1) (by intro ev ht hc hf; rw [← ht] at P5; simp [execOp, hc, hf, P5, go_sem, hen]) ?_
       refine (pick_any R (m + 1 + indD listed 2 + indD listed 6) 60 w1 hG.2 (by have := indD_le listed 2; have := indD_le listed 6; omega) zO).mono ?_
       rintro e w2 ⟨v, rfl, va, vb, hR, hg⟩
       exact ⟨_, rfl, .inl ⟨_, 28, rfl, rfl, ⟨v, rfl, va, by show v ≤ (59 : Int); omega⟩⟩, hg, gr_trans hG.1 hg, by rw [indD_other zd, indD_self hl]; exact hR.mono zO⟩
     · obtain rfl := Option.some.inj hi
       have P6 := hS.2.2.2 6 _ 28 rfl rfl (hall { on := 6, ground := .data } (by simp) rfl)
       obtain ⟨n6, e6, l6, h6⟩ := P6
       refine op_enter rfl rfl (f := 64) (args := #[.int .i64 n6]) (w' := w1) (by intro ev ht hc hf; rw [← ht] at e6; simp [execOp, hc, hf, e6, go_sem, hen2]) ?_
       refine (number_any n6 w1 zO zO).mono ?_
       rintro e w2 ⟨rfl, hb⟩
       exact ⟨_, rfl, .inl ⟨_, 29, rfl, rfl, ⟨_, rfl, numberT_size (show Small n6 from ⟨by omega, by omega⟩)⟩⟩, gr_below (gr_refl _ _) hb, gr_below hG.1 hb, by rw [indD_other zd, indD_other zd]; exact hG.2.below hb (Nat.le_refl _)⟩
     · obtain rfl := Option.some.inj hi
       have P4 := hS.2.2.2 4 _ 26 rfl rfl (hall { on := 4, ground := .data } (by simp) rfl)
       obtain ⟨x, ex, hx⟩ := P4
       have P7 := hS.2.2.2 7 _ 29 rfl rfl (hall { on := 7, ground := .data } (by simp) rfl)
       obtain ⟨t, et, hts⟩ := P7
       have hcat : ¬ 9223372036854775807 < x.size + t.size := by omega
       refine op_value (v := .string (x ++ t)) (w' := w1) rfl rfl (by intro ev ht hc hf; rw [← ht] at ex et; simp [execOp, hc, hf, ex, et, go_sem, hcat]) ⟨.inl ⟨_, 30, rfl, rfl, ⟨_, rfl, by rw [ByteArray.size_append]; omega⟩⟩, gr_refl _ _, ⟨hG.1, by rw [indD_other zd, indD_other zd]; exact hG.2⟩⟩
     · obtain rfl := Option.some.inj hi
       have P8 := hS.2.2.2 8 _ 30 rfl rfl (hall { on := 8, ground := .data } (by simp) rfl)
       obtain ⟨x, ex, hx⟩ := P8
       refine op_value (v := .string x) (w' := w1) rfl rfl (by intro ev ht hc hf; rw [← ht] at ex; simp [execOp, hc, hf, ex, go_sem]) ⟨.inl ⟨_, 2, rfl, rfl, ⟨x, rfl, hx⟩⟩, gr_refl _ _, ⟨hG.1, by rw [indD_other zd, indD_other zd]; exact hG.2⟩⟩
   case fin =>
     intro listed a w1 hall hS hG
     obtain ⟨x, e2, hx⟩ := hS.2.2.2 9 _ 2 rfl rfl (hall 9 zd)
     have e2' : a.tmps.getD 2 undef = .string x := e2
     have hd : a.defers = [] := hS.1
     refine hK _ _ ?_
     clear hK hS hall
     go_wp2_with fail
     refine bodyPost_ret (v := .string x) ((results_tmp Tryz.results61 _ _ _).trans (by rw [e2'])) hd ⟨x, rfl, by omega, hG.2.mono (by have := indD_le listed 2; have := indD_le listed 6; omega), hG.1⟩
 · go_wp2_with fail
   refine (l20FarB_any R (m + 1) _ hR1 zO).mono ?_
   rintro e w2 ⟨v2, rfl, hv2, hR2, hh2⟩
   have HG2 := Lib.hid (gr_trans hh1 hh2)
   clear hh1 hh2
   obtain ⟨u, hu⟩ : ∃ u, max v2 0 = u := ⟨_, rfl⟩
   have hu0 : 0 ≤ u := by omega
   have hu1 : u ≤ 9223372036854775807 := by omega
   have hu2 : (if v2 < 0 then (0 : Int) else v2) = u := by split <;> omega
   have hu3 : (if 0 ≤ v2 then v2 else (0 : Int)) = u := by split <;> omega
   have hu4 : (if v2 ≤ 0 then (0 : Int) else v2) = u := by split <;> omega
   go_wp2_with fail
   refine (number_any _ _ zO zO).mono ?_
   rintro e w3 ⟨rfl, hb3⟩
   have s3 := numberT_size (show Small (u) from ⟨by omega, by omega⟩)
   obtain ⟨t3, ht3⟩ : ∃ t, txt (numberT (u)) = t := ⟨_, rfl⟩
   rw [ht3] at s3 ⊢
   have HG3 := Lib.hid (gr_below HG2.out hb3)
   have hR3 := hR2.below hb3 (Nat.le_refl _)
   clear ht3 hb3 hR2 HG2
   have cat1 : ¬ 9223372036854775807 < 4 + t3.size := by omega
   have cat2 : ¬ 9223372036854775807 < 4 + t3.size + 1 := by omega
   go_wp2_with fail
   refine (pick_any R _ 200 _ hR3 zO zO).mono ?_
   rintro e w4 ⟨v4, rfl, va4, vb4, hR4, hh4⟩
   have HG4 := Lib.hid (gr_trans HG3.out hh4)
   clear hh4 HG3
   go_wp2_with fail
   refine (number_any v4 _ zO zO).mono ?_
   rintro e w5 ⟨rfl, hb5⟩
   have s5 := numberT_size (show Small v4 from ⟨by omega, by omega⟩)
   obtain ⟨t5, ht5⟩ : ∃ t, txt (numberT v4) = t := ⟨_, rfl⟩
   rw [ht5] at s5 ⊢
   have HG5 := Lib.hid (gr_below HG4.out hb5)
   have hR5 := hR4.below hb5 (Nat.le_refl _)
   clear ht5 hb5 hR4 HG4
   have cat3 : ¬ 9223372036854775807 < 4 + t3.size + 1 + t5.size := by omega
   go_wp2
   go_ret
   exact ⟨_, rfl, by simp only [ByteArray.size_append, show (⟨#[102, 97, 114, 32]⟩ : ByteArray).size = 4 from rfl, show (⟨#[32]⟩ : ByteArray).size = 1 from rfl]; omega, hR5.mono zO, HG5.out⟩
 · go_wp2_with fail
   refine (pick_any R (m + 1) 30 _ hR1 zO zO).mono ?_
   rintro e w2 ⟨v2, rfl, va2, vb2, hR2, hh2⟩
   have HG2 := Lib.hid (gr_trans hh1 hh2)
   clear hh1 hh2
   skip
   go_wp2_with fail
   refine (number_any _ _ zO zO).mono ?_
   rintro e w3 ⟨rfl, hb3⟩
   have s3 := numberT_size (show Small (v2) from ⟨by omega, by omega⟩)
   obtain ⟨t3, ht3⟩ : ∃ t, txt (numberT (v2)) = t := ⟨_, rfl⟩
   rw [ht3] at s3 ⊢
   have HG3 := Lib.hid (gr_below HG2.out hb3)
   have hR3 := hR2.below hb3 (Nat.le_refl _)
   clear ht3 hb3 hR2 HG2
   have cat1 : ¬ 9223372036854775807 < 7 + t3.size := by omega
   have cat2 : ¬ 9223372036854775807 < 7 + t3.size + 1 := by omega
   go_wp2_with fail
   refine (pick_any R _ 30 _ hR3 zO zO).mono ?_
   rintro e w4 ⟨v4, rfl, va4, vb4, hR4, hh4⟩
   have HG4 := Lib.hid (gr_trans HG3.out hh4)
   clear hh4 HG3
   go_wp2_with fail
   refine (number_any v4 _ zO zO).mono ?_
   rintro e w5 ⟨rfl, hb5⟩
   have s5 := numberT_size (show Small v4 from ⟨by omega, by omega⟩)
   obtain ⟨t5, ht5⟩ : ∃ t, txt (numberT v4) = t := ⟨_, rfl⟩
   rw [ht5] at s5 ⊢
   have HG5 := Lib.hid (gr_below HG4.out hb5)
   have hR5 := hR4.below hb5 (Nat.le_refl _)
   clear ht5 hb5 hR4 HG4
   have cat3 : ¬ 9223372036854775807 < 7 + t3.size + 1 + t5.size := by omega
   go_wp2
   go_ret
   exact ⟨_, rfl, by simp only [ByteArray.size_append, show (⟨#[99, 105, 114, 99, 108, 101, 32]⟩ : ByteArray).size = 7 from rfl, show (⟨#[32]⟩ : ByteArray).size = 1 from rfl]; omega, hR5.mono zO, HG5.out⟩
 · go_wp2_with fail
   refine (l20Deed_any R (m + 1) _ hR1 zO).mono ?_
   rintro e w2 ⟨x, y, z, rfl, hR2, hh2⟩
   have hs := deedT_len ⟨x, y, z⟩
   have hdt := fun W => specText_any x y z W
   obtain ⟨t, ht⟩ : ∃ t, txt (deedT ⟨x, y, z⟩) = t := ⟨_, rfl⟩
   have hts : t.size ≤ 12 := by rw [← ht, txt_size]; exact hs
   rw [ht] at hdt
   have HDT := Lib.hid hdt
   have HG2 := Lib.hid (gr_trans hh1 hh2)
   clear hdt ht hs hh1 hh2
   go_wp2_with fail
   refine (HDT.out _).mono ?_
   rintro e w3 ⟨rfl, hb3⟩
   have hR3 := hR2.below hb3 (Nat.le_refl _)
   have HG3 := Lib.hid (gr_below HG2.out hb3)
   clear hb3 HG2
   go_wp2
   go_ret
   exact ⟨t, rfl, by omega, hR3.mono zO, HG3.out⟩
end
section
open Go.RowKit
theorem c3_alloc {w : World} {b : Nat} {u0 u1 u2 : Value} (h : C3 w b u0 u1 u2) (o : Obj) : C3 (w.alloc o) b u0 u1 u2 := by
 have hb := h.lt
 obtain ⟨⟨h0, h1, h2⟩, f0, f1, f2⟩ := h
 have hB := (Below.refl w.heap.size w).alloc (Nat.le_refl _) o
 exact ⟨⟨(hB.cell (p := ⟨b, 0, none⟩) hb).trans h0, (hB.cell (p := ⟨b, 1, none⟩) hb).trans h1, (hB.cell (p := ⟨b, 2, none⟩) hb).trans h2⟩, (hB.frozen (p := ⟨b, 0, none⟩) hb).trans f0, (hB.frozen (p := ⟨b, 1, none⟩) hb).trans f1, (hB.frozen (p := ⟨b, 2, none⟩) hb).trans f2⟩
def GrowF (B : Nat) (W W' : World) : Prop := W.heap.size ≤ W'.heap.size ∧ ∀ g, B ≤ g → g < W.heap.size → W'.heap[g]? = W.heap[g]?
def DeedsAt (B n : Nat) (v : Value) (W : World) : Prop := ∃ (b : Option Addr) (d : Nat) (X : List DeedN) (C : Nat), v = .slice b X.length d ∧ IsDeeds B C W (.slice b X.length d) X ∧ X.length ≤ n
theorem DeedsAt.grow {B n : Nat} {v : Value} {W W' : World} (h : DeedsAt B n v W) (hg : GrowF B W W') : DeedsAt B n v W' := by
 obtain ⟨b, d, X, C, e, hX, hn⟩ := h
 have hC : C ≤ W.heap.size := by obtain ⟨_, _, _, hC, _⟩ := id hX; exact hC
 exact ⟨b, d, X, C, e, hX.far hg.1 (fun g h1 h2 => hg.2 g h1 zO), hn⟩
end
section
open Go.RowKit
theorem IsDeeds.grown {B C : Nat} {w w' : World} {row : Option Nat} {v : Value} {L : List DeedN} (h : IsDeeds B C w v L) (hg : w.grownBy w' row) (hr : ∀ g, row = some g → g < B ∨ C ≤ g) : IsDeeds B C w' v L := by
 obtain ⟨a, cap, rfl, hC, hs⟩ := h
 refine ⟨a, cap, rfl, Nat.le_trans hC hg.size, ?_⟩
 rcases hs with hs | ⟨g, off, ha, h1, h2, hc, hf⟩
 · exact .inl hs
 · have hne : some g ≠ row := fun e => by have := hr g e.symm; omega
   exact .inr ⟨g, off, ha, h1, h2, fun i p hi => ⟨(hg.cell_far ⟨g, off + i * 3, none⟩ (by show g < w.heap.size; omega) hne).trans (hc i p hi).1, (hg.cell_far ⟨g, off + i * 3 + 1, none⟩ (by show g < w.heap.size; omega) hne).trans (hc i p hi).2.1, (hg.cell_far ⟨g, off + i * 3 + 2, none⟩ (by show g < w.heap.size; omega) hne).trans (hc i p hi).2.2⟩, fun i hi => (hg.frozen_far ⟨g, off + i, none⟩ (by show g < w.heap.size; omega) hne).trans (hf i hi)⟩
end
section
open Go.RowKit
theorem strs_beside {B C n : Nat} {w w' : World} {v : Value} {f : Nat → ByteArray} {row : Option Nat} (h : IsStrs B C w v n f) (hg : w.grownBy w' row) (hr : ∀ g, row = some g → g < B ∨ C ≤ g) : IsStrs B C w' v n f := by
 obtain ⟨a, cap, rfl, hC, hs⟩ := h
 refine ⟨a, cap, rfl, Nat.le_trans hC hg.size, ?_⟩
 rcases hs with hs | ⟨g, off, ha, h1, h2, hc, hf⟩
 · exact .inl hs
 · have hne : some g ≠ row := fun e => by have := hr g e.symm; omega
   exact .inr ⟨g, off, ha, h1, h2, fun i hi => (hg.cell_far ⟨g, off + i, none⟩ (by show g < w.heap.size; omega) hne).trans (hc i hi), fun i hi => (hg.frozen_far ⟨g, off + i, none⟩ (by show g < w.heap.size; omega) hne).trans (hf i hi)⟩
def DeskLineSeen (w : World) (e : Ending) (w' : World) : Prop :=
 ∃ (p q : Int) (a : Option Addr) (c : Nat) (L : List (Int × Int)) (t : ByteArray), e = .returned (.tuple #[.agg #[.int .i64 p, .int .i64 q, .slice a L.length c], .string t]) ∧ IsPairs w.heap.size w'.heap.size w' (.slice a L.length c) L ∧ L.length ≤ 6 ∧ t.size ≤ 1000 ∧ Below w.heap.size w w'
def DeskLinesSeen (w : World) (e : Ending) (w' : World) : Prop :=
 ∃ (p q : Int) (a : Option Addr) (c : Nat) (L : List (Int × Int)) (b : Option Addr) (d : Nat) (X : List ByteArray), e = .returned (.tuple #[.agg #[.int .i64 p, .int .i64 q, .slice a L.length c], .slice b X.length d]) ∧ IsPairs w.heap.size w'.heap.size w' (.slice a L.length c) L ∧ L.length ≤ 6 ∧ IsStrs w.heap.size w'.heap.size w' (.slice b X.length d) X.length (txtAt X) ∧ X.length ≤ 41 ∧ X.length ≤ d ∧ (∀ i, i < X.length → (txtAt X i).size ≤ 1000) ∧ Below w.heap.size w w'
def linesP (p q : Int) (a2 : Option Addr) (c2 : Nat) (L : List (Int × Int)) (R j : Nat) (v : Value) (_ : World) : Prop :=
 match j with
 | 0 => v = .agg #[.int .i64 p, .int .i64 q, .slice a2 L.length c2]
 | 1 => v = .pointer (some ⟨R, 0, none⟩)
 | 3 => True
 | _ => ∃ t : ByteArray, v = .string t ∧ t.size ≤ 1000
set_option linter.unusedSimpArgs false in
set_option maxRecDepth 100000 in
set_option maxHeartbeats 8000000 in
theorem drawDeskLine_any (w : World) (a : Option Addr) (len cap : Nat) (zs : List Int) (h : IsRow w a len cap zs) :
   Calls Tryz.prog 20 #[.slice a len cap] w (DeskLineSeen w) := by
 have hen : ∀ (args : Array Value) (w : World), (callFunc 61 args).run Tryz.prog w = .ok (.enter 61 args) w := enters_of Tryz.func61 (by kernel_rfl) rfl
 have HEN := Lib.hid hen
 clear hen
 go_enter Tryz.func20, Tryz.ntmps20
 go_wp2_with fail
 refine (open_any _ _ _ _ zs (h.below ((Below.refl _ _).alloc (Nat.le_refl _) _))).mono ?_
 rintro e w1 ⟨rfl, hR1, hh1, hzR1⟩
 try simp only [World.size_alloc] at hzR1
 try simp only [World.size_alloc] at hR1
 obtain ⟨hc1, hf1⟩ := bcell hh1
 have hz1 := hh1.size
 try simp only [World.size_alloc] at hz1
 have hz1_0 : w.heap.size < w1.heap.size := by omega
 have kb1_0_0 : w1.cell? ⟨w.heap.size, 0, none⟩ = some (.int .i64 0) := by go_simp
 have kf1_0_0 : w1.frozen? ⟨w.heap.size, 0, none⟩ = false := by go_simp
 have kb1_0_1 : w1.cell? ⟨w.heap.size, 1, none⟩ = some (.int .i64 0) := by go_simp
 have kf1_0_1 : w1.frozen? ⟨w.heap.size, 1, none⟩ = false := by go_simp
 have kb1_0_2 : w1.cell? ⟨w.heap.size, 2, none⟩ = some (.slice none 0 0) := by go_simp
 have kf1_0_2 : w1.frozen? ⟨w.heap.size, 2, none⟩ = false := by go_simp
 clear hc1 hf1
 go_wp2_with fail
 refine (l20Desk_any (w.heap.size + 1) 0 12 _ hR1 zO zO).mono ?_
 rintro e w2 ⟨p, q, a2, c2, L, rfl, hI2, hL2, hR2, hh2⟩
 obtain ⟨hc2, hf2⟩ := gcell hh2
 have hz2 := hh2.size
 try simp only [World.size_alloc] at hz2
 have hz2_0 : w.heap.size < w2.heap.size := by omega
 have hn2_0 : ¬ w.heap.size = (w.heap.size + 1) := by omega
 have kb2_0_0 : w2.cell? ⟨w.heap.size, 0, none⟩ = some (.int .i64 0) := by go_simp
 have kf2_0_0 : w2.frozen? ⟨w.heap.size, 0, none⟩ = false := by go_simp
 have kb2_0_1 : w2.cell? ⟨w.heap.size, 1, none⟩ = some (.int .i64 0) := by go_simp
 have kf2_0_1 : w2.frozen? ⟨w.heap.size, 1, none⟩ = false := by go_simp
 have kb2_0_2 : w2.cell? ⟨w.heap.size, 2, none⟩ = some (.slice none 0 0) := by go_simp
 have kf2_0_2 : w2.frozen? ⟨w.heap.size, 2, none⟩ = false := by go_simp
 clear hc2 hf2
 have hRB : w.heap.size + 1 < w1.heap.size := by omega
 have hTA : w2.heap.size ≠ w.heap.size := by omega
 have hTR : w2.heap.size ≠ w.heap.size + 1 := by omega
 have kc3 : C3 (w2.alloc (.cells #[.int .i64 p, .int .i64 q, .slice a2 L.length c2] 32)) w2.heap.size (.int .i64 p) (.int .i64 q) (.slice a2 L.length c2) := ⟨⟨by go_simp, by go_simp, by go_simp⟩, by go_simp, by go_simp, by go_simp⟩
 have kd3 : C3 (w2.alloc (.cells #[.int .i64 p, .int .i64 q, .slice a2 L.length c2] 32)) w.heap.size (.int .i64 0) (.int .i64 0) (.slice none 0 0) := c3_alloc ⟨⟨by go_simp, by go_simp, by go_simp⟩, by go_simp, by go_simp, by go_simp⟩ _
 have hB3 : Below w.heap.size w (w2.alloc (.cells #[.int .i64 p, .int .i64 q, .slice a2 L.length c2] 32)) := by exact zb
 have hI3 := hI2.allocd (.cells #[.int .i64 p, .int .i64 q, .slice a2 L.length c2] 32)
 have hR3 := hR2.alloc (.cells #[.int .i64 p, .int .i64 q, .slice a2 L.length c2] 32)
 have hen := HEN.out
 clear hI2 hR2 hh2 hh1 hR1 HEN
 go_wp2_with fail
 rename_i K hK
 refine wp_region_stores (PP := linesP p q a2 c2 L (w.heap.size + 1)) (Grow := fun _ _ => True) (G := fun l W => BackG w 2 3 w1.heap.size w2.heap.size (w.heap.size + 1) w2.heap.size w.heap.size 40 10 p q a2 c2 L l W) (by kernel_rfl) (dis_of2 (by kernel_rfl)) (b_of (by kernel_rfl)) (back_of (by kernel_rfl)) (fun _ _ _ _ _ hp => hp) ⟨Below.drew hB3, rd_drewD (hR3.mono zO), hI3.drew, kc3, 0, 0, none, 0, 0, kd3, fun e => by simp [Array.getD_eq_getD_getElem?, Array.getElem?_replicate] at e⟩ ?step ?fin
 case step =>
   intro i o hi listed a w5 hS hG hall hl
   have hi5 : i < 5 := (Array.getElem?_eq_some_iff.1 hi).1
   rcases (show i = 0 ∨ i = 1 ∨ i = 2 ∨ i = 3 ∨ i = 4 by omega) with rfl | rfl | rfl | rfl | rfl
   · obtain rfl := Option.some.inj hi
     have e5 : a.eval (.tmp 5) = .pointer (some ⟨w2.heap.size, 0, none⟩) := hS.2.2.1 5 (noDst_of (by kernel_rfl))
     obtain ⟨⟨c0, c1, c2'⟩, _⟩ := hG.2.2.2.1
     refine op_value (v := .agg #[.int .i64 p, .int .i64 q, .slice a2 L.length c2]) (w' := w5) rfl rfl (by intro ev ht hc hf; rw [← ht] at e5; simp [execOp, hc, hf, e5, go_sem, c0, c1, c2']; try go_simp) ⟨.inl ⟨_, 10, rfl, rfl, rfl⟩, trivial, hG.same zd zd⟩
   · obtain rfl := Option.some.inj hi
     have e4 : a.eval (.tmp 4) = .pointer (some ⟨(w.heap.size + 1), 0, none⟩) := hS.2.2.1 4 (noDst_of (by kernel_rfl))
     refine op_value (v := .pointer (some ⟨(w.heap.size + 1), 0, none⟩)) (w' := w5) rfl rfl (by intro ev ht hc hf; rw [← ht] at e4; simp [execOp, hc, hf, e4, go_sem]) ⟨.inl ⟨_, 11, rfl, rfl, rfl⟩, trivial, hG.same zd zd⟩
   · obtain rfl := Option.some.inj hi
     have P1 := hS.2.2.2 1 _ 11 rfl rfl (hall { on := 1, ground := .data } (by simp) rfl)
     replace P1 : a.eval (.tmp 11) = .pointer (some ⟨(w.heap.size + 1), 0, none⟩) := P1
     refine op_enter rfl rfl (f := 61) (args := #[.pointer (some ⟨(w.heap.size + 1), 0, none⟩)]) (w' := w5) (by intro ev ht hc hf; rw [← ht] at P1; simp [execOp, hc, hf, P1, go_sem, hen]) ?_
     refine (l20Line_any (w.heap.size + 1) (40 + 10 * indD listed 2) w5 hG.2.1 (by have := indD_le listed 2; omega)).mono ?_
     rintro e w6 ⟨t, rfl, hn, hR, hg⟩
     exact ⟨_, rfl, .inl ⟨_, 12, rfl, rfl, ⟨t, rfl, hn⟩⟩, trivial, hG.call hl zd hR hg hRB zO hTR zO⟩
   · obtain rfl := Option.some.inj hi
     have P0 := hS.2.2.2 0 _ 10 rfl rfl (hall { on := 0, ground := .data } (by simp) rfl)
     replace P0 : a.eval (.tmp 10) = .agg #[.int .i64 p, .int .i64 q, .slice a2 L.length c2] := P0
     have e2 : a.eval (.tmp 2) = .pointer (some ⟨w.heap.size, 0, none⟩) := hS.2.2.1 2 (noDst_of (by kernel_rfl))
     obtain ⟨_, _, _, _, x, y, a6, n6, c6, hA, _⟩ := id hG
     obtain ⟨⟨c0, c1, c2'⟩, f0, f1, f2⟩ := id hA
     refine op_store (w' := set3 w5 w.heap.size (.int .i64 p) (.int .i64 q) (.slice a2 L.length c2)) rfl rfl rfl (by intro ev ht hc hf; rw [← ht] at P0 e2; unfold set3; simp [execOp, hc, hf, P0, e2, go_sem, c0, c1, c2', f0, f1, f2]; try go_simp) ⟨.inr ⟨rfl, rfl⟩, trivial, hG.desk zd zO (Nat.le_refl _) hTA zO⟩
   · obtain rfl := Option.some.inj hi
     have P2 := hS.2.2.2 2 _ 12 rfl rfl (hall { on := 2, ground := .data } (by simp) rfl)
     obtain ⟨t, e6, hn⟩ := id P2
     refine op_value (v := .string t) (w' := w5) rfl rfl (by intro ev ht hc hf; rw [← ht] at e6; simp [execOp, hc, hf, e6, go_sem]) ⟨.inl ⟨_, 3, rfl, rfl, ⟨t, rfl, hn⟩⟩, trivial, hG.same zd zd⟩
 case fin =>
   intro listed a w5 hall hS hG
   have e2 : a.eval (.tmp 2) = .pointer (some ⟨w.heap.size, 0, none⟩) := hS.2.2.1 2 (noDst_of (by kernel_rfl))
   obtain ⟨t3, e3, hn3⟩ := hS.2.2.2 4 _ 3 rfl rfl (hall 4 zd)
   have hd : a.defers = [] := hS.1
   have hsz : a.tmps.size = 13 := hS.2.1
   obtain ⟨hB, _, hI, _, x, y, a6, n6, c6, hA, hl3⟩ := hG
   obtain ⟨rfl, rfl, hsl⟩ := hl3 (hall 3 zd)
   rw [hsl] at hA
   have hC : w2.heap.size ≤ w5.heap.size := by obtain ⟨_, _, _, hC, _⟩ := id hI; exact hC
   obtain ⟨t, d⟩ := a
   clear hS hall hsl hl3
   dsimp only at hd hsz
   subst hd
   obtain ⟨u0, u1, u4, u5, u6, u7, u8, u9, u10, u11, u12, rfl⟩ := act13 t hsz _ _ e2 e3
   clear e2 e3 hsz hen
   refine hK _ _ ?_
   clear hK K
   obtain ⟨⟨c0, c1, c2'⟩, f0, f1, f2⟩ := hA
   go_wp2_with fail
   refine bodyPost_ret (v := .tuple #[.agg #[.int .i64 x, .int .i64 y, .slice a2 L.length c2], .string t3]) (by simp [results, Tryz.results20, go_sem]; go_simp) rfl ⟨x, y, a2, c2, L, t3, rfl, hI.mono zO hC (Nat.le_refl _), hL2, hn3, hB⟩
theorem c3_under {W W' : World} {b D : Nat} {u0 u1 u2 : Value} (h : C3 W b u0 u1 u2) (hb : Below D W W') (hD : b < D) : C3 W' b u0 u1 u2 := by
 obtain ⟨⟨h0, h1, h2⟩, f0, f1, f2⟩ := h
 exact ⟨⟨(hb.cell (p := ⟨b, 0, none⟩) hD).trans h0, (hb.cell (p := ⟨b, 1, none⟩) hD).trans h1, (hb.cell (p := ⟨b, 2, none⟩) hD).trans h2⟩, (hb.frozen (p := ⟨b, 0, none⟩) hD).trans f0, (hb.frozen (p := ⟨b, 1, none⟩) hD).trans f1, (hb.frozen (p := ⟨b, 2, none⟩) hD).trans f2⟩
theorem own_cap {w : World} {base size n d : Nat} {e : TypeId} {b : Option Addr} {xs : List Value} (h : w.ownsRow base e size (.slice b n d) n xs) : n ≤ d := by
 rcases h.2 with ⟨_, h0⟩ | ⟨g, cap, cur, hv, _, _, hnc, _⟩
 · omega
 · cases hv; exact hnc
theorem txtAt_size {X : List ByteArray} {n : Nat} (h : ∀ s ∈ X, s.size ≤ n) : ∀ i, i < X.length → (txtAt X i).size ≤ n := by
 intro i hi
 have e : txtAt X i = X[i] := by unfold txtAt; simp [List.getD_eq_getElem?_getD, hi]
 rw [e]
 exact h _ (List.getElem_mem hi)
theorem empties_made (W : World) (t : TypeId) : IsStrs W.heap.size (W.heap.size + 1) (W.alloc (.cells (madeCells #[.string ⟨#[]⟩] 41) t)) (.slice (some ⟨W.heap.size, 0, none⟩) 41 41) 41 (txtAt (List.replicate 41 ⟨#[]⟩)) := by
 refine ⟨_, 41, rfl, by simp, .inr ⟨W.heap.size, 0, rfl, Nat.le_refl _, by omega, fun i hi => ?_, fun i hi => ?_⟩⟩
 · rw [Nat.zero_add]
   have e : txtAt (List.replicate 41 (⟨#[]⟩ : ByteArray)) i = ⟨#[]⟩ := by unfold txtAt; rw [List.getD_eq_getElem?_getD, List.getElem?_replicate, if_pos hi]; rfl
   rw [e]
   exact (World.cell?_alloc_mark _ _ _ _ _).trans (madeStr_at _ _ hi)
 · unfold World.frozen?; rw [heap_alloc_new]; simp
set_option maxRecDepth 100000 in
set_option maxHeartbeats 8000000 in
theorem drawDeskSay_any (w : World) (a : Option Addr) (len cap : Nat) (zs : List Int) (h : IsRow w a len cap zs) :
   Calls Tryz.prog 24 #[.slice a len cap] w (DeskLinesSeen w) := by
 obtain ⟨i0, hi0, hz0, hzs1, hz2'⟩ := info_parts info_txt
 have hmk := fun W => run_make_texts (P := Tryz.prog) 49 9 i0 Tryz.underlying49 hi0 hz0 hzs1 hz2' 41 zO W
 rw [show ((41 : Nat) : Int) = 41 from rfl] at hmk
 have HMK := Lib.hid hmk
 clear hmk
 go_enter Tryz.func24, Tryz.ntmps24
 go_wp2_with fail
 refine (open_any _ _ _ _ zs (h.below ((Below.refl _ _).alloc (Nat.le_refl _) _))).mono ?_
 rintro e w1 ⟨rfl, hR1, hh1, hzR1⟩
 try simp only [World.size_alloc] at hzR1
 try simp only [World.size_alloc] at hR1
 obtain ⟨hc1, hf1⟩ := bcell hh1
 have hz1 := hh1.size
 try simp only [World.size_alloc] at hz1
 have hz1_0 : w.heap.size < w1.heap.size := by omega
 have kb1_0_0 : w1.cell? ⟨w.heap.size, 0, none⟩ = some (.int .i64 0) := by go_simp
 have kf1_0_0 : w1.frozen? ⟨w.heap.size, 0, none⟩ = false := by go_simp
 have kb1_0_1 : w1.cell? ⟨w.heap.size, 1, none⟩ = some (.int .i64 0) := by go_simp
 have kf1_0_1 : w1.frozen? ⟨w.heap.size, 1, none⟩ = false := by go_simp
 have kb1_0_2 : w1.cell? ⟨w.heap.size, 2, none⟩ = some (.slice none 0 0) := by go_simp
 have kf1_0_2 : w1.frozen? ⟨w.heap.size, 2, none⟩ = false := by go_simp
 clear hc1 hf1
 go_wp2_with fail
 refine (l20Desk_any (w.heap.size + 1) 0 12 _ hR1 zO zO).mono ?_
 rintro e w2 ⟨p, q, a2, c2, L, rfl, hI2, hL2, hR2, hh2⟩
 obtain ⟨hc2, hf2⟩ := gcell hh2
 have hz2 := hh2.size
 try simp only [World.size_alloc] at hz2
 have hz2_0 : w.heap.size < w2.heap.size := by omega
 have hn2_0 : ¬ w.heap.size = (w.heap.size + 1) := by omega
 have kb2_0_0 : w2.cell? ⟨w.heap.size, 0, none⟩ = some (.int .i64 0) := by go_simp
 have kf2_0_0 : w2.frozen? ⟨w.heap.size, 0, none⟩ = false := by go_simp
 have kb2_0_1 : w2.cell? ⟨w.heap.size, 1, none⟩ = some (.int .i64 0) := by go_simp
 have kf2_0_1 : w2.frozen? ⟨w.heap.size, 1, none⟩ = false := by go_simp
 have kb2_0_2 : w2.cell? ⟨w.heap.size, 2, none⟩ = some (.slice none 0 0) := by go_simp
 have kf2_0_2 : w2.frozen? ⟨w.heap.size, 2, none⟩ = false := by go_simp
 clear hc2 hf2
 have hRB : w.heap.size + 1 < w1.heap.size := by omega
 have hTA : w2.heap.size ≠ w.heap.size := by omega
 have hTR : w2.heap.size ≠ w.heap.size + 1 := by omega
 have kc3 : C3 (w2.alloc (.cells #[.int .i64 p, .int .i64 q, .slice a2 L.length c2] 32)) w2.heap.size (.int .i64 p) (.int .i64 q) (.slice a2 L.length c2) := ⟨⟨by go_simp, by go_simp, by go_simp⟩, by go_simp, by go_simp, by go_simp⟩
 have kd3 : C3 (w2.alloc (.cells #[.int .i64 p, .int .i64 q, .slice a2 L.length c2] 32)) w.heap.size (.int .i64 0) (.int .i64 0) (.slice none 0 0) := c3_alloc ⟨⟨by go_simp, by go_simp, by go_simp⟩, by go_simp, by go_simp, by go_simp⟩ _
 have hB3 : Below w.heap.size w (w2.alloc (.cells #[.int .i64 p, .int .i64 q, .slice a2 L.length c2] 32)) := by exact zb
 have hI3 := hI2.allocd (.cells #[.int .i64 p, .int .i64 q, .slice a2 L.length c2] 32)
 have hR3 := hR2.alloc (.cells #[.int .i64 p, .int .i64 q, .slice a2 L.length c2] 32)
 have HO3 := Lib.hid (show ((w2.alloc (.cells #[.int .i64 p, .int .i64 q, .slice a2 L.length c2] 32)).alloc (.cells #[] 9)).ownsRow (w2.heap.size + 1) 9 1 (.slice (some ⟨w2.heap.size + 1, 0, none⟩) 0 0) 0 [] from by
   have := World.ownsRow_made (w2.alloc (.cells #[.int .i64 p, .int .i64 q, .slice a2 L.length c2] 32)) (base := w2.heap.size + 1) (e := 9) (size := 1) #[] 0 (by simp) (by unfold maxLen; omega) rfl
   simpa using this)
 have kc4 := c3_alloc kc3 (.cells #[] 9)
 have kd4 := c3_alloc kd3 (.cells #[] 9)
 have hI4 := hI3.allocd (.cells #[] 9)
 have hR4 := hR3.alloc (.cells #[] 9)
 have hB4 : Below w.heap.size w ((w2.alloc (.cells #[.int .i64 p, .int .i64 q, .slice a2 L.length c2] 32)).alloc (.cells #[] 9)) := hB3.alloc (by simp; omega) _
 clear hI2 hR2 hh2 hh1 hR1 hI3 hR3 hB3 kc3 kd3 kb1_0_0 kf1_0_0 kb1_0_1 kf1_0_1 kb1_0_2 kf1_0_2 kb2_0_0 kf2_0_0 kb2_0_1 kf2_0_1 kb2_0_2 kf2_0_2
 go_wp2_with fail
 refine (pick_any (w.heap.size + 1) (0 + 40) 7 _ hR4 zO zO).mono ?_
 rintro e w5 ⟨v5, rfl, va5, vb5, hR5, hh5⟩
 obtain ⟨n5, rfl⟩ : ∃ n : Nat, v5 = (n : Int) := ⟨v5.toNat, by omega⟩
 have hn6 : n5 ≤ 6 := by omega
 have hO5 := own_grows HO3.out hh5 zO
 have kc5 := kc4.grow hh5 hTR
 have kd5 := kd4.grow hh5 zO
 have hI5 := pairs_grows hI4 hh5 hRB
 have hB5 : Below w.heap.size w w5 := hB4.grown hh5 hB4.size (fun k e => by cases e; omega)
 have hz5 := hh5.size
 simp at hz5
 have hR5' := hR5.mono (show 0 + 40 + 1 ≤ 41 by omega)
 clear va5 vb5 hh5 hB4 hR4 hR5 hI4 kc4 kd4 HO3
 go_wp2_with fail
 go_loopw [6, 7] (fun x6 x7 wr => ∃ (n : Nat) (X : List ByteArray) (b : Option Addr) (d : Nat), x6 = .slice b X.length d ∧ x7 = .int .i64 n ∧ X.length + n ≤ 6 ∧ (∀ s ∈ X, s.size ≤ 1000) ∧ wr.ownsRow (w2.heap.size + 1) 9 1 (.slice b X.length d) X.length (byteC X) ∧ IsPairs w1.heap.size w2.heap.size wr (.slice a2 L.length c2) L ∧ Rd wr (w.heap.size + 1) (41 + 10 * X.length) ∧ C3 wr w2.heap.size (.int .i64 p) (.int .i64 q) (.slice a2 L.length c2) ∧ C3 wr w.heap.size (.int .i64 0) (.int .i64 0) (.slice none 0 0) ∧ w2.heap.size + 1 < wr.heap.size ∧ Below w.heap.size w wr) (fun _ x7 _ => (intOf x7).toNat)
 case atStart => exact ⟨n5, [], _, _, rfl, rfl, by simpa using hn6, by simp, hO5, hI5, hR5', kc5, kd5, by omega, hB5⟩
 case round =>
   obtain ⟨n, X, b, d, rfl, rfl, hXn, hXs, hO, hI, hR, kc, kd, hz, hB⟩ := hrel
   clear hO5 hI5 hR5' kc5 kd5 hB5
   have hlk := hO.lt
   by_cases hn0 : 0 < n
   · have hni : (0 : Int) < (n : Int) := by omega
     have Wn : IntKind.i64.wrap ((n : Int) - 1) = ((n - 1 : Nat) : Int) := by rw [IntKind.wrap_i64]; omega
     go_wp2_with fail
     refine (l20Line_any (w.heap.size + 1) _ _ hR zO).mono ?_
     rintro e w6 ⟨t, rfl, ht, hR6, hh6⟩
     have hz6 := hh6.size
     have HO6 := Lib.hid (own_grows hO hh6 zO)
     have HC6 := Lib.hid (kc.grow hh6 hTR)
     have HD6 := Lib.hid (kd.grow hh6 zO)
     have HI6 := Lib.hid (pairs_grows hI hh6 hRB)
     have HB6 := Lib.hid (hB.grown hh6 hB.size (fun k e => by cases e; omega))
     have HR6 := Lib.hid hR6
     clear hR6 hh6 hO hI hR kc kd hB
     go_wp2_with (at_builtin; refine wpList_append_own_at _ rfl _ _ 49 rfl (w2.heap.size + 1) 9 i0 (.string ⟨#[]⟩) 1 16 Tryz.underlying49 hi0 hz0 hzs1 hz2' rfl zd (.slice b X.length d) X.length (byteC X) rfl (HO6.out.alloc _) ⟨w6.heap.size, 0, none⟩ 1 1 [.string t] rfl rfl (cell_one_new _ _ _) (by simp [Value.oneCell']) (by unfold maxLen; omega) zO (by simp; omega) ?_)
     intro v7 w7 hown7 hgrow7 _ _
     have hz7 := hgrow7.size
     simp at hz7
     obtain ⟨a7, c7, rfl⟩ := own_shape hown7
     rw [byteC_snoc] at hown7
     have HO7 := Lib.hid hown7
     have hu : Below (w2.heap.size + 1) w6 w7 := ((Below.refl (w2.heap.size + 1) w6).alloc zO _).grown hgrow7 (by simp; omega) (fun g e => (hlk g e).1)
     have HC7 := Lib.hid (c3_under HC6.out hu zO)
     have HD7 := Lib.hid (c3_under HD6.out hu zO)
     have HR7 := Lib.hid (rd_under HR6.out hu zO)
     have HI7 := Lib.hid (HI6.out.below hu zO)
     have HB7 := Lib.hid (HB6.out.trans (hu.mono zO))
     clear hown7 hgrow7 hu HO6 HC6 HD6 HI6 HB6 HR6
     go_wp2
     go_roundw
     case rel =>
       refine ⟨n - 1, X ++ [t], a7, c7, by simp, rfl, by simp; omega, fun s hs => ?_, by simpa using HO7.out, HI7.out, HR7.out.mono (by simp; omega), HC7.out, HD7.out, by omega, HB7.out⟩
       rcases List.mem_append.1 hs with hs | hs
       · exact hXs s hs
       · have := List.mem_singleton.1 hs; subst this; exact ht
     case measure => simp [intOf]; omega
   · obtain rfl : n = 0 := by omega
     go_wp2_with fail
     refine (odd_any (w.heap.size + 1) _ 30 _ hR zO zO).mono ?_
     rintro e w6 ⟨bb, rfl, hR6, hh6⟩
     have hz6 := hh6.size
     have HO6 := Lib.hid (own_grows hO hh6 zO)
     have kc6 := kc.grow hh6 hTR
     have kd6 := kd.grow hh6 zO
     have HI6 := Lib.hid (pairs_grows hI hh6 hRB)
     have HB6 := Lib.hid (hB.grown hh6 hB.size (fun k e => by cases e; omega))
     clear hR6 hh6 hO hI hR kc kd hB
     obtain ⟨⟨c0, c1, c2'⟩, _⟩ := kc6
     obtain ⟨⟨d0, d1, d2⟩, f0, f1, f2⟩ := kd6
     have hs0 : w.heap.size < w6.heap.size := by omega
     have hs2 : w2.heap.size < w6.heap.size := by omega
     cases bb with
     | true =>
       have hmk := HMK.out
       go_wp2_with fail
       refine bodyPost_ret (v := .tuple #[.agg #[.int .i64 p, .int .i64 q, .slice a2 L.length c2], .slice (some ⟨w6.heap.size, 0, none⟩) 41 41]) (by simp [results, Tryz.results24, go_sem]; go_simp) rfl ?_
       have hE := empties_made (set3 w6 w.heap.size (.int .i64 p) (.int .i64 q) (.slice a2 L.length c2)) 9
       have hl41 : (List.replicate 41 (⟨#[]⟩ : ByteArray)).length = 41 := List.length_replicate
       refine ⟨p, q, a2, c2, L, some ⟨w6.heap.size, 0, none⟩, 41, List.replicate 41 ⟨#[]⟩, by rw [hl41], ?_, hL2, ?_, by rw [hl41]; omega, by rw [hl41]; exact Nat.le_refl _, fun i hi => ?_, ?_⟩
       · exact ((pairs_set3 (b := w.heap.size) HI6.out zO (.int .i64 p) (.int .i64 q) (.slice a2 L.length c2)).allocd _).mono zO (by simp [World.setCell]; omega) (by simp [set3, World.setCell])
       · rw [hl41]
         rw [set3_size] at hE
         exact hE.mono zO (by simp [World.setCell]) (by simp [set3, World.setCell])
       · rw [hl41] at hi
         have e : txtAt (List.replicate 41 (⟨#[]⟩ : ByteArray)) i = ⟨#[]⟩ := by unfold txtAt; rw [List.getD_eq_getElem?_getD, List.getElem?_replicate, if_pos hi]; rfl
         rw [e]; exact Nat.zero_le _
       · exact (below_set3 HB6.out (Nat.le_refl _) _ _ _).alloc (by simp [set3, World.setCell]; omega) _
     | false =>
       go_wp2_with fail
       refine bodyPost_ret (v := .tuple #[.agg #[.int .i64 p, .int .i64 q, .slice a2 L.length c2], .slice b X.length d]) (by simp [results, Tryz.results24, go_sem]; go_simp) rfl ?_
       refine ⟨p, q, a2, c2, L, b, d, X, rfl, ?_, hL2, ?_, by omega, own_cap HO6.out, txtAt_size hXs, ?_⟩
       · exact (pairs_set3 (b := w.heap.size) HI6.out zO (.int .i64 p) (.int .i64 q) (.slice a2 L.length c2)).mono zO (by simp [World.setCell]; omega) (by simp [set3, World.setCell])
       · exact (strs_beside (strs_own HO6.out rfl) (gr3 _ w.heap.size (.int .i64 p) (.int .i64 q) (.slice a2 L.length c2)) (fun g e => by cases e; left; omega)).mono zO (by simp [World.setCell]) (by simp [World.setCell])
       · exact below_set3 HB6.out (Nat.le_refl _) _ _ _
end
section
open Go.RowKit Go.Shelf
theorem toldT_ne (n : Int) (b : Bool) : (toldT n b).size ≠ 0 := by
 unfold toldT
 split
 · rw [txt_size]; intro e; exact numberT_ne n (List.length_eq_zero_iff.1 e)
 · decide
theorem yesT_ne (b : Bool) : (yesT b).size ≠ 0 := by unfold yesT; split <;> decide
theorem writT_ne (m : Nat) : (writT (m : Int)).size ≠ 0 := by
 unfold writT
 split
 · rename_i h
   have hb : inB (m : Int) 0 10000 = true := by unfold inB; simp; omega
   rw [writtenV_is hb]
   have := (writtenT_size (n := m) zO).1
   omega
 · decide
theorem pairT_ne (p q : Int) : (pairT p q).size ≠ 0 := by
 unfold pairT
 rw [ByteArray.size_append, ByteArray.size_append]
 have : (⟨#[44]⟩ : ByteArray).size = 1 := rfl
 omega
theorem ask0_ne (p q : Int) (w : ByteArray) : (ask0 p q w).size ≠ 0 := by
 unfold ask0
 split
 · exact pairT_ne p q
 · split
   · exact toldT_ne _ _
   · decide
theorem ask1_ne (p q : Int) (n : Nat) (w : ByteArray) : (ask1 p q (n : Int) w).size ≠ 0 := by
 unfold ask1
 repeat' split
 all_goals first | exact toldT_ne _ _ | exact yesT_ne _ | exact writT_ne _ | decide
theorem ask2_ne (p q n m : Int) (w : ByteArray) : (ask2 p q n m w).size ≠ 0 := by
 unfold ask2
 repeat' split
 all_goals first | exact toldT_ne _ _ | decide
theorem askV_ne (p q : Int) (w : ByteArray) (ns : List Nat) : (askV p q w ns).size ≠ 0 := by
 unfold askV
 split
 · exact ask0_ne _ _ _
 · exact ask1_ne _ _ _ _
 · exact ask2_ne _ _ _ _ _
 · decide
theorem ansV_ne (p q : Int) (l : List UInt8) : (ansV p q l).size ≠ 0 := by
 unfold ansV
 split
 · exact askV_ne _ _ _ _
 · decide
theorem lineV_ne {d : DeskN} (l : List UInt8) (h : deskN d = true) : (lineV d l).2.size ≠ 0 := by
 cases hr : readN l with
 | none => rw [lineV_ask h hr]; exact ansV_ne _ _ _
 | some x =>
   rw [lineV_deed h hr rfl]
   show (if (doN d x).2 = true then okLn else notLn).size ≠ 0
   split <;> decide
theorem sayV_ne {d : DeskN} (X : List ByteArray) (h : deskN d = true) : ∀ s ∈ (sayV d X).2, s.size ≠ 0 := by
 induction X generalizing d with
 | nil => intro s hs; simp [sayV] at hs
 | cons x X ih =>
   intro s hs
   simp only [sayV] at hs
   rcases List.mem_cons.1 hs with rfl | hs
   · exact lineV_ne _ h
   · exact ih (lineV_desk _ h) s hs
theorem sayV_at {d : DeskN} {X : List ByteArray} {i : Nat} (h : deskN d = true) (hi : i < (sayV d X).2.length) : (txtAt (sayV d X).2 i).size ≠ 0 := by
 refine sayV_ne X h _ ?_
 have e : txtAt (sayV d X).2 i = (sayV d X).2[i] := by unfold txtAt; simp [List.getD_eq_getElem?_getD, hi]
 rw [e]
 exact List.getElem_mem hi
theorem lineV_keeps {d : DeskN} {l : List UInt8} (h : deskN d = true) (hne : (lineV d l).2 ≠ okLn) : (lineV d l).1 = d := by
 cases hr : readN l with
 | none => rw [lineV_ask h hr]
 | some x =>
   rw [lineV_deed h hr rfl] at hne ⊢
   show (doN d x).1 = d
   cases hd : (doN d x).2 with
   | false => exact doN_no hd
   | true => exact absurd (by show (if (doN d x).2 = true then okLn else notLn) = okLn; rw [if_pos hd]) hne
def writtenLn : ByteArray := ⟨#[119, 114, 105, 116, 116, 101, 110, 32, 49, 49]⟩
def circleLn : ByteArray := ⟨#[99, 105, 114, 99, 108, 101, 32, 50, 32, 50]⟩
theorem readN_writ : readN writtenLn.data.toList = none := by decide +kernel
theorem readN_circ : readN circleLn.data.toList = none := by decide +kernel
theorem readN_nil : readN (⟨#[]⟩ : ByteArray).data.toList = none := by decide +kernel
theorem ans_nil (p q : Int) : ansV p q (⟨#[]⟩ : ByteArray).data.toList = whatT := by
 have hw : (txt ((wordsN [] ([] : List UInt8)).getD 0 [])).toList = [] := by rw [bl_toList]; rfl
 show ask0 p q (txt ((wordsN [] ([] : List UInt8)).getD 0 [])) = _
 unfold ask0
 rw [hw, if_neg zd, if_neg zd]
theorem ans_writ (p q : Int) : ansV p q writtenLn.data.toList = ⟨#[49, 48, 49, 48, 48]⟩ := by
 have hw : (txt ((wordsN [] writtenLn.data.toList).getD 0 [])).toList = [119, 114, 105, 116, 116, 101, 110] := by rw [bl_toList]; decide +kernel
 unfold ansV
 rw [show numsN ((wordsN [] writtenLn.data.toList).drop 1) = some [11] by decide +kernel]
 show ask1 p q ((11 : Nat) : Int) _ = _
 unfold ask1
 rw [hw, if_neg zd, if_neg zd, if_neg zd, if_neg zd, if_neg zd, if_pos rfl]
 unfold writT
 rw [if_pos zd, writtenV_is zd]
 decide +kernel
theorem ans_circ (p q : Int) : ansV p q circleLn.data.toList = ⟨#[56]⟩ := by
 have hw : (txt ((wordsN [] circleLn.data.toList).getD 0 [])).toList = [99, 105, 114, 99, 108, 101] := by rw [bl_toList]; decide +kernel
 unfold ansV
 rw [show numsN ((wordsN [] circleLn.data.toList).drop 1) = some [2, 2] by decide +kernel]
 show ask2 p q ((2 : Nat) : Int) ((2 : Nat) : Int) _ = _
 unfold ask2
 rw [hw, if_neg zd, if_pos rfl]
 have hb : circB ((2 : Nat) : Int) ((2 : Nat) : Int) = true := by decide
 unfold toldT
 rw [if_pos hb, circV_is hb]
 decide +kernel
theorem lineV_empty {d : DeskN} (h : deskN d = true) : lineV d (⟨#[]⟩ : ByteArray).data.toList = (d, whatT) := by rw [lineV_ask h readN_nil, ans_nil]
theorem lineV_writ {d : DeskN} (h : deskN d = true) : lineV d writtenLn.data.toList = (d, ⟨#[49, 48, 49, 48, 48]⟩) := by rw [lineV_ask h readN_writ, ans_writ]
theorem lineV_circ {d : DeskN} (h : deskN d = true) : lineV d circleLn.data.toList = (d, ⟨#[56]⟩) := by rw [lineV_ask h readN_circ, ans_circ]
theorem sayV_parts (d : DeskN) (X : List ByteArray) (k : Nat) : sayV d X = ((sayV (sayV d (X.take k)).1 (X.drop k)).1, (sayV d (X.take k)).2 ++ (sayV (sayV d (X.take k)).1 (X.drop k)).2) := by
 rw [← sayV_append, List.take_append_drop]
end
end Go.Proofs.YtblphilcmfabkaaGreatDoor
