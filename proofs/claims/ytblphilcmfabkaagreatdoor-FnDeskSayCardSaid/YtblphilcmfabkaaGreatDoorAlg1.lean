/- Contracts and laws that the statement's proof stands on, one text behind the other. -/
import Derived.Test.YtblphilcmfabkaaGreatDoorAlg0
import Derived.Deep.Cut
import Derived.Deep.DeepCutAuto
import Derived.Deep.RegionHeld3

namespace Go.Proofs.YtblphilcmfabkaaGreatDoor
section
open Go.RowKit
theorem IsStrs.far {B C n : Nat} {w w' : World} {v : Value} {f : Nat → ByteArray} (h : IsStrs B C w v n f) (hz : w.heap.size ≤ w'.heap.size) (hb : ∀ g, B ≤ g → g < C → w'.heap[g]? = w.heap[g]?) : IsStrs B C w' v n f := by
 obtain ⟨a, cap, rfl, hC, hs⟩ := h
 refine ⟨a, cap, rfl, Nat.le_trans hC hz, ?_⟩
 rcases hs with hs | ⟨g, off, ha, h1, h2, hc, hf⟩
 · exact .inl hs
 · exact .inr ⟨g, off, ha, h1, h2, fun i hi => (World.cell?_of_block (a := ⟨g, off + i, none⟩) (hb g h1 h2)).trans (hc i hi), fun i hi => (World.frozen?_of_block (a := ⟨g, off + i, none⟩) (hb g h1 h2)).trans (hf i hi)⟩
theorem IsStrs.set2 {B C n : Nat} {w : World} {v : Value} {f : Nat → ByteArray} (h : IsStrs B C w v n f) {p : Addr} (hp : p.block < B ∨ C ≤ p.block) (x : Value) : IsStrs B C (w.setCell p x) v n f :=
 h.far (by simp [World.setCell]) fun g h1 h2 => Below.heap_setCell _ _ _ _ zO
theorem IsStrs.allocd {B C n : Nat} {w : World} {v : Value} {f : Nat → ByteArray} (h : IsStrs B C w v n f) (o : Obj) : IsStrs B C (w.alloc o) v n f := by
 obtain ⟨a, cap, hv, hC, hs⟩ := id h
 exact h.below ((Below.refl _ _).alloc (Nat.le_refl _) _) hC
theorem txtAt_take {X : List ByteArray} {k i : Nat} (h : i < k) : txtAt (X.take k) i = txtAt X i := by unfold txtAt; rw [List.getD_eq_getElem?_getD, List.getD_eq_getElem?_getD, List.getElem?_take, if_pos h]
theorem txtAt_drop {X : List ByteArray} {k i : Nat} : txtAt (X.drop k) i = txtAt X (k + i) := by unfold txtAt; rw [List.getD_eq_getElem?_getD, List.getD_eq_getElem?_getD, List.getElem?_drop]
theorem strs_take {B C : Nat} {w : World} {b : Option Addr} {d : Nat} {X : List ByteArray} (h : IsStrs B C w (.slice b X.length d) X.length (txtAt X)) (k : Nat) (hk : k ≤ X.length) : IsStrs B C w (.slice b k d) (X.take k).length (txtAt (X.take k)) := by
 have hl : (X.take k).length = k := by rw [List.length_take]; omega
 obtain ⟨b', d', e, hC, hs⟩ := h
 obtain ⟨rfl, rfl⟩ : b = b' ∧ d = d' := by simpa using e
 refine ⟨b, d, by rw [hl], hC, ?_⟩
 rcases hs with hs | ⟨g, off, ha, h1, h2, hc, hf⟩
 · exact .inl (by rw [hl]; omega)
 · exact .inr ⟨g, off, ha, h1, h2, fun i hi => by rw [hl] at hi; rw [txtAt_take hi]; exact hc i zO, fun i hi => by rw [hl] at hi; exact hf i zO⟩
theorem strs_drop {B C : Nat} {w : World} {b : Option Addr} {d : Nat} {X : List ByteArray} (h : IsStrs B C w (.slice b X.length d) X.length (txtAt X)) (k : Nat) (hk : k ≤ X.length) (hk2 : 0 < X.length → k < X.length) (hd : X.length ≤ d) :
   ∃ v2 d2, sliced b k X.length d 1 = .slice v2 (X.length - k) d2 ∧ IsStrs B C w (.slice v2 (X.length - k) d2) (X.drop k).length (txtAt (X.drop k)) := by
 have hl : (X.drop k).length = X.length - k := List.length_drop
 obtain ⟨b', d', e, hC, hs⟩ := id h
 obtain ⟨rfl, rfl⟩ : b = b' ∧ d = d' := by simpa using e
 rcases Nat.eq_zero_or_pos X.length with h0 | h0
 · obtain ⟨v2, d2, hv⟩ : ∃ v2 d2, sliced b k X.length d 1 = .slice v2 (X.length - k) d2 := by
     unfold sliced
     split <;> exact ⟨_, _, rfl⟩
   exact ⟨v2, d2, hv, ⟨v2, d2, by rw [hl], hC, .inl (by rw [hl]; omega)⟩⟩
 · have hlt := hk2 h0
   rcases hs with hs | ⟨g, off, ha, h1, h2, hc, hf⟩
   · omega
   · subst ha
     refine ⟨some ⟨g, off + k, none⟩, d - k, ?_, ⟨_, _, by rw [hl], hC, .inr ⟨g, off + k, rfl, h1, h2, fun i hi => ?_, fun i hi => ?_⟩⟩⟩
     · unfold sliced
       rw [if_neg zO]
       simp [add_row]
     · rw [hl] at hi
       rw [txtAt_drop, Nat.add_assoc]
       exact hc (k + i) zO
     · rw [hl] at hi
       rw [Nat.add_assoc]
       exact hf (k + i) zO
theorem strs_none (W : World) (a : Option Addr) (c n : Nat) {Y : List ByteArray} (hY : Y = []) (hn : n = 0) : IsStrs W.heap.size W.heap.size W (.slice a n c) Y.length (txtAt Y) := by
 subst hY hn; exact ⟨a, c, rfl, Nat.le_refl _, .inl rfl⟩
theorem byteC_len (L : List ByteArray) : (byteC L).length = L.length * 1 := by simp [byteC]
theorem byteC_append (L M : List ByteArray) : byteC L ++ byteC M = byteC (L ++ M) := by simp [byteC]
theorem byteC_one (L : List ByteArray) : ∀ u ∈ byteC L, u.oneCell' = true := by
 intro u hu
 obtain ⟨s, _, rfl⟩ := List.mem_map.1 hu
 rfl
theorem byteC_get {L : List ByteArray} {j : Nat} {u : Value} (h : (byteC L)[j]? = some u) : j < L.length ∧ u = .string (txtAt L j) := by
 have hj : j < L.length := by
   have := (List.getElem?_eq_some_iff.1 h).1
   rw [byteC_len] at this
   omega
 refine ⟨hj, ?_⟩
 rw [byteC_range] at h
 simpa [hj] using h.symm
section
variable {P : Program} (w : World)
theorem run_append_texts (base : Nat) (t ty e : TypeId) (i : TypeInfo) (z : Value) (bytes : Nat) (ht : P.underlying t = some (.slice e)) (hi : P.info? e = some i) (hz : i.zero = some z)
   (hsize : i.size = 1) (hby : i.bytes = bytes) (hzs : z.cells.size = 1) (v : Value) (n : Nat) (xs : List Value) (hown : w.ownsRow base e 1 v n xs)
   (B C : Nat) (x : Value) (L : List ByteArray) (hx : IsStrs B C w x L.length (txtAt L)) (h63 : n + L.length ≤ maxLen) (hbytes : (n + L.length) * bytes ≤ 140737488355328) (hbase : base ≤ w.heap.size) :
   ∃ a c w', (Builtin.append_ #[t, t] ty #[v, x]).run P w = .ok (.slice a (n + L.length) c) w' ∧ w'.ownsRow base e 1 (.slice a (n + L.length) c) (n + L.length) (xs ++ byteC L) ∧ w.grownBy w' v.ownBlock := by
 obtain ⟨a, cap, rfl, hC, hs⟩ := hx
 cases a with
 | none =>
   obtain rfl : L = [] := by
     rcases hs with hs | ⟨g, off, ha, _⟩
     · exact List.length_eq_zero_iff.1 hs
     · cases ha
   obtain ⟨a0, c0, rfl⟩ := own_shape hown
   refine ⟨a0, c0, w, ?_, by simpa [byteC] using hown, ⟨rfl, rfl, rfl, Nat.le_refl _, fun _ _ _ => rfl⟩⟩
   rcases hown.2 with ⟨hv, rfl⟩ | ⟨g, cap, cur, hv, _, _, hnc, _⟩
   · cases hv
     simp [Builtin.append_, run_underlying ht, sizeOf, typeInfo, hi, Builtin.lenOf, Builtin.firstCells]
   · cases hv
     simp [Builtin.append_, run_underlying ht, sizeOf, typeInfo, hi, Builtin.lenOf, Builtin.firstCells, hnc, storeCells]
 | some ad =>
   obtain ⟨v', w', h1, h2, h3, _, _⟩ := run_append_own_at (P := P) w base t ty e i z 1 bytes ht hi hz hsize hby hzs zO v n xs hown ad L.length cap (byteC L) (byteC_len L)
     (fun j u hu => by
       obtain ⟨hj, rfl⟩ := byteC_get hu
       rcases hs with h0 | ⟨g, off, ha, _, _, hc, _⟩
       · omega
       · cases ha
         rw [add_row]
         exact hc j hj) (byteC_one L) h63 hbytes hbase
   obtain ⟨a0, c0, rfl⟩ := own_shape h2
   exact ⟨a0, c0, w', h1, h2, h3⟩
theorem wpList_append_texts {ops : Array Oper} {rest : List Oper} {o : Oper} {a : Act} {Q : Exit → Act → World → Prop} (hw : Region.wanted o (yielded ops a.tmps) = true) (s x : Operand) (t : TypeId)
   (ho : o.op = .call { callee := .builtin .append, args := #[s, x], argTypes := #[t, t] })
   (base : Nat) (e : TypeId) (i : TypeInfo) (z : Value) (bytes : Nat) (ht : P.underlying t = some (.slice e)) (hi : P.info? e = some i) (hz : i.zero = some z)
   (hsize : i.size = 1) (hby : i.bytes = bytes) (hzs : z.cells.size = 1) (v : Value) (n : Nat) (xs : List Value) (hs : a.eval s = v) (hown : w.ownsRow base e 1 v n xs)
   (B C : Nat) (y : Value) (L : List ByteArray) (hx : a.eval x = y) (hy : IsStrs B C w y L.length (txtAt L)) (N : Nat) (hN : n + L.length = N) (X : List Value) (hX : xs ++ byteC L = X) (h63 : N ≤ maxLen) (hbytes : N * bytes ≤ 140737488355328) (hbase : base ≤ w.heap.size)
   (h : ∀ a' c' w', w'.ownsRow base e 1 (.slice a' N c') N X → w.grownBy w' v.ownBlock → wpList P ops Q rest (a.put o.dst (.slice a' N c')) w') : wpList P ops Q (o :: rest) a w := by
 subst hN hX
 refine wpList_step fun K hK => ?_
 rw [if_pos hw]
 obtain ⟨a', c', w', hr, h2, h3⟩ := run_append_texts (P := P) w base t o.type e i z bytes ht hi hz hsize hby hzs v n xs hown B C y L hy h63 hbytes hbase
 unfold Oper.wp execOp
 simp only [ho, resolve, invoke, builtin, Sem.run_bind, Sem.run_pure, Result.andThen_ok, List.map_toArray, List.map_cons, List.map_nil, hs, hx, hr]
 exact hK _ _ (h a' c' w' h2 h3)
end
def elevenLn : ByteArray := ⟨#[49, 48, 49, 48, 48]⟩
def eightLn : ByteArray := ⟨#[56]⟩
end
section
open Go.RowKit
set_option maxRecDepth 100000 in
set_option maxHeartbeats 16000000 in
theorem fnDeskSay_walk (a : Option Addr) (len cap : Nat) (z : List Int) (w : World) (w0 : IsRow w a len cap z) (ht : PowTab w) (he : Errs w) :
   Calls Tryz.prog 5 #[.slice a len cap] w fun e w' => e = .returned (.bool true) ∧ Below w.heap.size w w' := by
 by_cases hbig : 1048576 < len
 · go_enter Tryz.func5, Tryz.ntmps5
   go_wp2
   go_ret
   exact ⟨rfl, Below.refl _ _⟩
 · have hsm : len ≤ 1048576 := by omega
   go_enter Tryz.func5, Tryz.ntmps5
   go_wp2_with fail
   refine (drawDeskSay_any _ _ _ _ z w0).mono ?_
   rintro e w1 ⟨p, q, a2, c2, L, b3, d3, X, rfl, hI, hL, hD, hX, hcap, hXs, hh1⟩
   have hz1 := hh1.size
   obtain ⟨hc1, hf1⟩ := bcell hh1
   obtain ⟨i0, hi0, hz0, hzs1, hz2'⟩ := info_parts info_txt
   have hn : L.length ≤ 1048600 := by omega
   have hXn : X.length ≤ 1048600 := by omega
   have hJ := fun (W : World) (B C B' C' : Nat) (a : Option Addr) (c : Nat) (b : Option Addr) (d : Nat) (hI : IsPairs B C W (.slice a L.length c) L) (hD : IsStrs B' C' W (.slice b X.length d) X.length (txtAt X)) hT hE => implSay_any B C B' C' p q L X _ _ W hI hn hD (fun i hi => Nat.le_trans (hXs i hi) zO) hT hE
   have hS := fun (W : World) (B C B' C' : Nat) (a : Option Addr) (c : Nat) (b : Option Addr) (d : Nat) (hI : IsPairs B C W (.slice a L.length c) L) (hD : IsStrs B' C' W (.slice b X.length d) X.length (txtAt X)) => specSay_any B C B' C' p q L X _ _ W hI hn hD (fun i hi => Nat.le_trans (hXs i hi) zO)
   unfold SayS at hS hJ
   obtain ⟨rp, rq, R, A, hres⟩ : ∃ rp rq R A, sayR ⟨(p, q), L⟩ X = (⟨(rp, rq), R⟩, A) := ⟨_, _, _, _, rfl⟩
   have hlen := sayR_len ⟨(p, q), L⟩ X
   rw [hres] at hS hJ hlen
   dsimp only at hS hJ hlen
   obtain ⟨hA40, hR8⟩ := hlen
   have hRn : R.length ≤ 1048600 := by omega
   have HS := Lib.hid hS
   have HI := Lib.hid hJ
   have HRES := Lib.hid hres
   have HXS := Lib.hid hXs
   clear hS hJ hres hXs
   have HB1 := Lib.hid hh1
   have HR1_tab := Lib.hid (ht.below hh1 (Nat.le_refl _))
   have HR1_err := Lib.hid (he.below hh1 (Nat.le_refl _))
   clear hc1 hf1 hh1 ht he
   have HR1_p := Lib.hid (hI)
   have HR1_ss := Lib.hid (hD)
   clear hI hD
   go_wp2_with fail
   refine calls_namedD ?_
   intro w2 hw2
   have hN2 : Below w1.heap.size w1 w2 := by
     rw [hw2]
     exact zb
   have hz2 : w2.heap.size = _ := congrArg (fun W : World => W.heap.size) hw2
   try simp at hz2
   have hn2 := hN2.size
   have hs2_0 : w1.heap.size < w2.heap.size := by omega
   have kb2_0_0 : w2.cell? ⟨w1.heap.size, 0, none⟩ = some (.int .i64 p) := by rw [hw2]; go_simp
   have kb2_0_1 : w2.cell? ⟨w1.heap.size, 1, none⟩ = some (.int .i64 q) := by rw [hw2]; go_simp
   have kb2_0_2 : w2.cell? ⟨w1.heap.size, 2, none⟩ = some (.slice a2 L.length c2) := by rw [hw2]; go_simp
   have HB2 := Lib.hid (HB1.out.trans (hN2.mono zl))
   have HR2_tab := Lib.hid (HR1_tab.out.below hN2 zl)
   have HR2_err := Lib.hid (HR1_err.out.below hN2 zl)
   have HR2_p := Lib.hid (HR1_p.out.below hN2 zl)
   have HR2_ss := Lib.hid (HR1_ss.out.below hN2 zl)
   clear hw2 hN2 hz2
   refine (HI.out _ _ _ _ _ _ _ _ _ HR2_p.out HR2_ss.out HR2_tab.out HR2_err.out).mono ?_
   rintro e w3 ⟨a3, c3, e3, k3, P3, Q3, S3, T3, rfl, hI3, hJ3, ⟨hp3, hq3, hd3⟩, hb3⟩
   obtain ⟨hc3, hf3⟩ := bcell hb3
   have hz3 := hb3.size
   try simp at hz3
   have hN3 : Below w2.heap.size w2 w3 := by
     refine Below.trans ?_ (hb3.mono zo)
     exact zb
   have hn3 := hN3.size
   have hs3_0 : w1.heap.size < w3.heap.size := by omega
   have kb3_0_0 : w3.cell? ⟨w1.heap.size, 0, none⟩ = some (.int .i64 p) := by go_simp
   have kb3_0_1 : w3.cell? ⟨w1.heap.size, 1, none⟩ = some (.int .i64 q) := by go_simp
   have kb3_0_2 : w3.cell? ⟨w1.heap.size, 2, none⟩ = some (.slice a2 L.length c2) := by go_simp
   have HB3 := Lib.hid (HB2.out.trans (hN3.mono zl))
   have HR3_tab := Lib.hid (HR2_tab.out.below hN3 zl)
   have HR3_err := Lib.hid (HR2_err.out.below hN3 zl)
   have HR3_p := Lib.hid (HR2_p.out.below hN3 zl)
   have HR3_ss := Lib.hid (HR2_ss.out.below hN3 zl)
   clear hc3 hf3 hb3 hN3 hz3
   have hQ3 : Q3 ≤ w3.heap.size := by obtain ⟨_, _, _, h, _⟩ := id hI3; exact h
   have hT3 : T3 ≤ w3.heap.size := by obtain ⟨_, _, _, h, _⟩ := id hJ3; exact h
   have HR3_x := Lib.hid (hI3)
   have HR3_xs := Lib.hid (hJ3)
   clear hI3 hJ3
   go_wp2_with fail
   refine calls_namedD ?_
   intro w4 hw4
   have hN4 : Below w3.heap.size w3 w4 := by
     rw [hw4]
     exact zb
   have hz4 : w4.heap.size = _ := congrArg (fun W : World => W.heap.size) hw4
   try simp at hz4
   have hn4 := hN4.size
   have hs4_0 : w1.heap.size < w4.heap.size := by omega
   have hs4_1 : w3.heap.size < w4.heap.size := by omega
   have kb4_0_0 : w4.cell? ⟨w1.heap.size, 0, none⟩ = some (.int .i64 p) := by rw [hw4]; go_simp
   have kb4_0_1 : w4.cell? ⟨w1.heap.size, 1, none⟩ = some (.int .i64 q) := by rw [hw4]; go_simp
   have kb4_0_2 : w4.cell? ⟨w1.heap.size, 2, none⟩ = some (.slice a2 L.length c2) := by rw [hw4]; go_simp
   have kb4_1_0 : w4.cell? ⟨w3.heap.size, 0, none⟩ = some (.int .i64 rp) := by rw [hw4]; go_simp
   have kb4_1_1 : w4.cell? ⟨w3.heap.size, 1, none⟩ = some (.int .i64 rq) := by rw [hw4]; go_simp
   have kb4_1_2 : w4.cell? ⟨w3.heap.size, 2, none⟩ = some (.slice a3 R.length c3) := by rw [hw4]; go_simp
   have HB4 := Lib.hid (HB3.out.trans (hN4.mono zl))
   have HR4_tab := Lib.hid (HR3_tab.out.below hN4 zl)
   have HR4_err := Lib.hid (HR3_err.out.below hN4 zl)
   have HR4_p := Lib.hid (HR3_p.out.below hN4 zl)
   have HR4_ss := Lib.hid (HR3_ss.out.below hN4 zl)
   have HR4_x := Lib.hid (HR3_x.out.below hN4 zl)
   have HR4_xs := Lib.hid (HR3_xs.out.below hN4 zl)
   clear hw4 hN4 hz4
   refine (HS.out _ _ _ _ _ _ _ _ _ HR4_p.out HR4_ss.out).mono ?_
   rintro e w5 ⟨a4, c4, e4, k4, P4, Q4, S4, T4, rfl, hI4, hJ4, ⟨hp4, hq4, hd4⟩, hb5⟩
   obtain ⟨hc5, hf5⟩ := bcell hb5
   have hz5 := hb5.size
   try simp at hz5
   have hN5 : Below w4.heap.size w4 w5 := by
     refine Below.trans ?_ (hb5.mono zo)
     exact zb
   have hn5 := hN5.size
   have hs5_0 : w1.heap.size < w5.heap.size := by omega
   have hs5_1 : w3.heap.size < w5.heap.size := by omega
   have kb5_0_0 : w5.cell? ⟨w1.heap.size, 0, none⟩ = some (.int .i64 p) := by go_simp
   have kb5_0_1 : w5.cell? ⟨w1.heap.size, 1, none⟩ = some (.int .i64 q) := by go_simp
   have kb5_0_2 : w5.cell? ⟨w1.heap.size, 2, none⟩ = some (.slice a2 L.length c2) := by go_simp
   have kb5_1_0 : w5.cell? ⟨w3.heap.size, 0, none⟩ = some (.int .i64 rp) := by go_simp
   have kb5_1_1 : w5.cell? ⟨w3.heap.size, 1, none⟩ = some (.int .i64 rq) := by go_simp
   have kb5_1_2 : w5.cell? ⟨w3.heap.size, 2, none⟩ = some (.slice a3 R.length c3) := by go_simp
   have HB5 := Lib.hid (HB4.out.trans (hN5.mono zl))
   have HR5_tab := Lib.hid (HR4_tab.out.below hN5 zl)
   have HR5_err := Lib.hid (HR4_err.out.below hN5 zl)
   have HR5_p := Lib.hid (HR4_p.out.below hN5 zl)
   have HR5_ss := Lib.hid (HR4_ss.out.below hN5 zl)
   have HR5_x := Lib.hid (HR4_x.out.below hN5 zl)
   have HR5_xs := Lib.hid (HR4_xs.out.below hN5 zl)
   clear hc5 hf5 hb5 hN5 hz5
   have hQ4 : Q4 ≤ w5.heap.size := by obtain ⟨_, _, _, h, _⟩ := id hI4; exact h
   have hT4 : T4 ≤ w5.heap.size := by obtain ⟨_, _, _, h, _⟩ := id hJ4; exact h
   have HR5_y := Lib.hid (hI4)
   have HR5_ys := Lib.hid (hJ4)
   clear hI4 hJ4
   go_wp2_with fail
   refine calls_namedD ?_
   intro w6 hw6
   have hN6 : Below w5.heap.size w5 w6 := by
     rw [hw6]
     exact zb
   have hz6 : w6.heap.size = _ := congrArg (fun W : World => W.heap.size) hw6
   try simp at hz6
   have hn6 := hN6.size
   have hs6_0 : w1.heap.size < w6.heap.size := by omega
   have hs6_1 : w3.heap.size < w6.heap.size := by omega
   have hs6_2 : w5.heap.size < w6.heap.size := by omega
   have kb6_0_0 : w6.cell? ⟨w1.heap.size, 0, none⟩ = some (.int .i64 p) := by rw [hw6]; go_simp
   have kb6_0_1 : w6.cell? ⟨w1.heap.size, 1, none⟩ = some (.int .i64 q) := by rw [hw6]; go_simp
   have kb6_0_2 : w6.cell? ⟨w1.heap.size, 2, none⟩ = some (.slice a2 L.length c2) := by rw [hw6]; go_simp
   have kb6_1_0 : w6.cell? ⟨w3.heap.size, 0, none⟩ = some (.int .i64 rp) := by rw [hw6]; go_simp
   have kb6_1_1 : w6.cell? ⟨w3.heap.size, 1, none⟩ = some (.int .i64 rq) := by rw [hw6]; go_simp
   have kb6_1_2 : w6.cell? ⟨w3.heap.size, 2, none⟩ = some (.slice a3 R.length c3) := by rw [hw6]; go_simp
   have kb6_2_0 : w6.cell? ⟨w5.heap.size, 0, none⟩ = some (.int .i64 rp) := by rw [hw6]; go_simp
   have kb6_2_1 : w6.cell? ⟨w5.heap.size, 1, none⟩ = some (.int .i64 rq) := by rw [hw6]; go_simp
   have kb6_2_2 : w6.cell? ⟨w5.heap.size, 2, none⟩ = some (.slice a4 R.length c4) := by rw [hw6]; go_simp
   have HB6 := Lib.hid (HB5.out.trans (hN6.mono zl))
   have HR6_tab := Lib.hid (HR5_tab.out.below hN6 zl)
   have HR6_err := Lib.hid (HR5_err.out.below hN6 zl)
   have HR6_p := Lib.hid (HR5_p.out.below hN6 zl)
   have HR6_ss := Lib.hid (HR5_ss.out.below hN6 zl)
   have HR6_x := Lib.hid (HR5_x.out.below hN6 zl)
   have HR6_xs := Lib.hid (HR5_xs.out.below hN6 zl)
   have HR6_y := Lib.hid (HR5_y.out.below hN6 zl)
   have HR6_ys := Lib.hid (HR5_ys.out.below hN6 zl)
   clear hw6 hN6 hz6
   refine (sameDesk_yes _ _ _ _ rp rq _ _ R _ HR6_x.out HR6_y.out hRn).mono ?_
   rintro e w7 ⟨rfl, hb7⟩
   obtain ⟨hc7, hf7⟩ := bcell hb7
   have hz7 := hb7.size
   try simp at hz7
   have hN7 : Below w6.heap.size w6 w7 := by
     refine Below.trans ?_ (hb7.mono zo)
     exact zb
   have hn7 := hN7.size
   have hs7_0 : w1.heap.size < w7.heap.size := by omega
   have hs7_1 : w3.heap.size < w7.heap.size := by omega
   have hs7_2 : w5.heap.size < w7.heap.size := by omega
   have kb7_0_0 : w7.cell? ⟨w1.heap.size, 0, none⟩ = some (.int .i64 p) := by go_simp
   have kb7_0_1 : w7.cell? ⟨w1.heap.size, 1, none⟩ = some (.int .i64 q) := by go_simp
   have kb7_0_2 : w7.cell? ⟨w1.heap.size, 2, none⟩ = some (.slice a2 L.length c2) := by go_simp
   have kb7_1_0 : w7.cell? ⟨w3.heap.size, 0, none⟩ = some (.int .i64 rp) := by go_simp
   have kb7_1_1 : w7.cell? ⟨w3.heap.size, 1, none⟩ = some (.int .i64 rq) := by go_simp
   have kb7_1_2 : w7.cell? ⟨w3.heap.size, 2, none⟩ = some (.slice a3 R.length c3) := by go_simp
   have kb7_2_0 : w7.cell? ⟨w5.heap.size, 0, none⟩ = some (.int .i64 rp) := by go_simp
   have kb7_2_1 : w7.cell? ⟨w5.heap.size, 1, none⟩ = some (.int .i64 rq) := by go_simp
   have kb7_2_2 : w7.cell? ⟨w5.heap.size, 2, none⟩ = some (.slice a4 R.length c4) := by go_simp
   have HB7 := Lib.hid (HB6.out.trans (hN7.mono zl))
   have HR7_tab := Lib.hid (HR6_tab.out.below hN7 zl)
   have HR7_err := Lib.hid (HR6_err.out.below hN7 zl)
   have HR7_p := Lib.hid (HR6_p.out.below hN7 zl)
   have HR7_ss := Lib.hid (HR6_ss.out.below hN7 zl)
   have HR7_x := Lib.hid (HR6_x.out.below hN7 zl)
   have HR7_xs := Lib.hid (HR6_xs.out.below hN7 zl)
   have HR7_y := Lib.hid (HR6_y.out.below hN7 zl)
   have HR7_ys := Lib.hid (HR6_ys.out.below hN7 zl)
   clear hc7 hf7 hb7 hN7 hz7
   go_wp2_with fail
   refine (sameTexts_same _ _ _ _ A.length _ _ (txtAt A) _ HR7_xs.out HR7_ys.out zO).mono ?_
   rintro e w8 ⟨rfl, hb8⟩
   obtain ⟨hc8, hf8⟩ := bcell hb8
   have hz8 := hb8.size
   try simp at hz8
   have hN8 : Below w7.heap.size w7 w8 := by
     refine Below.trans ?_ (hb8.mono zo)
     exact zb
   have hn8 := hN8.size
   have hs8_0 : w1.heap.size < w8.heap.size := by omega
   have hs8_1 : w3.heap.size < w8.heap.size := by omega
   have hs8_2 : w5.heap.size < w8.heap.size := by omega
   have kb8_0_0 : w8.cell? ⟨w1.heap.size, 0, none⟩ = some (.int .i64 p) := by go_simp
   have kb8_0_1 : w8.cell? ⟨w1.heap.size, 1, none⟩ = some (.int .i64 q) := by go_simp
   have kb8_0_2 : w8.cell? ⟨w1.heap.size, 2, none⟩ = some (.slice a2 L.length c2) := by go_simp
   have kb8_1_0 : w8.cell? ⟨w3.heap.size, 0, none⟩ = some (.int .i64 rp) := by go_simp
   have kb8_1_1 : w8.cell? ⟨w3.heap.size, 1, none⟩ = some (.int .i64 rq) := by go_simp
   have kb8_1_2 : w8.cell? ⟨w3.heap.size, 2, none⟩ = some (.slice a3 R.length c3) := by go_simp
   have kb8_2_0 : w8.cell? ⟨w5.heap.size, 0, none⟩ = some (.int .i64 rp) := by go_simp
   have kb8_2_1 : w8.cell? ⟨w5.heap.size, 1, none⟩ = some (.int .i64 rq) := by go_simp
   have kb8_2_2 : w8.cell? ⟨w5.heap.size, 2, none⟩ = some (.slice a4 R.length c4) := by go_simp
   have HB8 := Lib.hid (HB7.out.trans (hN8.mono zl))
   have HR8_tab := Lib.hid (HR7_tab.out.below hN8 zl)
   have HR8_err := Lib.hid (HR7_err.out.below hN8 zl)
   have HR8_p := Lib.hid (HR7_p.out.below hN8 zl)
   have HR8_ss := Lib.hid (HR7_ss.out.below hN8 zl)
   have HR8_x := Lib.hid (HR7_x.out.below hN8 zl)
   have HR8_xs := Lib.hid (HR7_xs.out.below hN8 zl)
   have HR8_y := Lib.hid (HR7_y.out.below hN8 zl)
   have HR8_ys := Lib.hid (HR7_ys.out.below hN8 zl)
   clear hc8 hf8 hb8 hN8 hz8
   have hres := HRES.out
   have hXs := HXS.out
   clear HRES HS HI HXS
   obtain ⟨dk, hdk⟩ : ∃ b, deskN ⟨(p, q), L⟩ = b := ⟨_, rfl⟩
   have HD := Lib.hid hdk
   by_cases hyes : dk = true ∧ X.length ≤ 40
   · obtain ⟨rfl, h40⟩ := hyes
     have hrv := hres
     rw [sayR_yes hdk h40] at hrv
     have hdd : deskN ⟨(rp, rq), R⟩ = true := by
       have := sayV_desk X hdk
       rwa [hrv] at this
     have hAX : A.length = X.length := by have := sayV_len ⟨(p, q), L⟩ X; rwa [hrv] at this
     have hne : ∀ k, k < A.length → (txtAt A k).size ≠ 0 := fun k hk => by
       have := sayV_at (X := X) (i := k) hdk (by rw [hrv]; exact hk)
       rwa [hrv] at this
     obtain ⟨h2, hh2⟩ : ∃ h2, h2 = X.length / 2 := ⟨_, rfl⟩
     have hh : h2 ≤ X.length := by omega
     have hh0 : 0 < X.length → h2 < X.length := by omega
     have hparts := sayV_parts ⟨(p, q), L⟩ X h2
     have ht1 : (X.take h2).length ≤ 40 := by rw [List.length_take]; omega
     have ht2 : (X.drop h2).length ≤ 40 := by rw [List.length_drop]; omega
     obtain ⟨up, uq, U, F, hu⟩ : ∃ up uq U F, sayV ⟨(p, q), L⟩ (X.take h2) = (⟨(up, uq), U⟩, F) := ⟨_, _, _, _, rfl⟩
     have hdu : deskN ⟨(up, uq), U⟩ = true := by have := sayV_desk (X.take h2) hdk; rwa [hu] at this
     have hU8 : U.length ≤ 8 := (deskN_of hdu).2.1
     have hUn : U.length ≤ 1048600 := by omega
     obtain ⟨G, hv⟩ : ∃ G, sayV ⟨(up, uq), U⟩ (X.drop h2) = (⟨(rp, rq), R⟩, G) := by
       rw [hu] at hparts
       dsimp only at hparts
       rw [hrv] at hparts
       exact ⟨(sayV ⟨(up, uq), U⟩ (X.drop h2)).2, by rw [show (⟨(rp, rq), R⟩ : DeskN) = _ from congrArg Prod.fst hparts]⟩
     have hAF : F ++ G = A := by
       rw [hu] at hparts
       dsimp only at hparts
       rw [hv, hrv] at hparts
       exact (congrArg Prod.snd hparts).symm
     have hFG : F.length + G.length = A.length := by rw [← hAF, List.length_append]
     have hF40 : F.length ≤ 40 := by omega
     have hG40 : G.length ≤ 40 := by omega
     have hT1 := fun (W : World) (B C B' C' : Nat) (a : Option Addr) (c : Nat) (u : Value) (hI : IsPairs B C W (.slice a L.length c) L) (hD : IsStrs B' C' W u (X.take h2).length (txtAt (X.take h2))) hT hE => implSay_any B C B' C' p q L (X.take h2) _ _ W hI hn hD (fun i hi => by rw [txtAt_take (by rw [List.length_take] at hi; omega)]; exact Nat.le_trans (hXs i (by rw [List.length_take] at hi; omega)) zO) hT hE
     have hT2 := fun (W : World) (B C B' C' : Nat) (a : Option Addr) (c : Nat) (u : Value) (hI : IsPairs B C W (.slice a U.length c) U) (hD : IsStrs B' C' W u (X.drop h2).length (txtAt (X.drop h2))) hT hE => implSay_any B C B' C' up uq U (X.drop h2) _ _ W hI hUn hD (fun i hi => by rw [txtAt_drop]; exact Nat.le_trans (hXs _ (by rw [List.length_drop] at hi; omega)) zO) hT hE
     unfold SayS at hT1 hT2
     rw [sayR_yes hdk ht1, hu] at hT1
     rw [sayR_yes hdu ht2, hv] at hT2
     dsimp only at hT1 hT2
     have hW := fun (W : World) (B C : Nat) (a : Option Addr) (c : Nat) (hI : IsPairs B C W (.slice a R.length c) R) hT hE => implLine_any B C rp rq R _ (⟨#[119, 114, 105, 116, 116, 101, 110, 32, 49, 49]⟩ : ByteArray) W hI hRn zd hT hE
     have hC := fun (W : World) (B C : Nat) (a : Option Addr) (c : Nat) (hI : IsPairs B C W (.slice a R.length c) R) hT hE => implLine_any B C rp rq R _ (⟨#[99, 105, 114, 99, 108, 101, 32, 50, 32, 50]⟩ : ByteArray) W hI hRn zd hT hE
     have ew : lineV ⟨(rp, rq), R⟩ (⟨#[119, 114, 105, 116, 116, 101, 110, 32, 49, 49]⟩ : ByteArray).data.toList = (⟨(rp, rq), R⟩, elevenLn) := lineV_writ hdd
     have ec : lineV ⟨(rp, rq), R⟩ (⟨#[99, 105, 114, 99, 108, 101, 32, 50, 32, 50]⟩ : ByteArray).data.toList = (⟨(rp, rq), R⟩, eightLn) := lineV_circ hdd
     unfold LineS at hW hC
     rw [ew] at hW
     rw [ec] at hC
     dsimp only at hW hC
     have he1 : elevenLn.toList = [49, 48, 49, 48, 48] := by rw [bl_toList]; rfl
     have he2 : (elevenLn.toList == [49, 48, 49, 48, 48]) = true := by rw [he1]; rfl
     have he3 : eightLn.toList = [56] := by rw [bl_toList]; rfl
     have he4 : (eightLn.toList == [56]) = true := by rw [he3]; rfl
     have HT1 := Lib.hid hT1
     have HT2 := Lib.hid hT2
     have HW := Lib.hid hW
     have HC := Lib.hid hC
     have HAF := Lib.hid hAF
     have HAX := Lib.hid hAX
     have HNE := Lib.hid hne
     have HCAP := Lib.hid hcap
     have h40' : ¬ ((40 : Int) < (X.length : Int)) := by omega
     clear hT1 hT2 hW hC hu hv hparts hdd hdk hres hrv hAF hAX hne hFG ew ec hdu ht1 ht2 hXs
     rcases (show d3 = 0 ∨ ¬ d3 = 0 by omega) with rfl | hd0
     · have hl0 : X.length = 0 := by omega
       obtain rfl : h2 = 0 := by omega
       clear hh hh0 hh2 hcap
       go_wp2_with fail
       refine (specOk_is _ _ p q L _ _ HR8_p.out hn true HD.out).mono ?_
       rintro e w9 ⟨rfl, hb9⟩
       obtain ⟨hc9, hf9⟩ := bcell hb9
       have hz9 := hb9.size
       try simp at hz9
       have hN9 : Below w8.heap.size w8 w9 := by
         refine Below.trans ?_ (hb9.mono zo)
         exact zb
       have hn9 := hN9.size
       have hs9_0 : w1.heap.size < w9.heap.size := by omega
       have hs9_1 : w3.heap.size < w9.heap.size := by omega
       have kb9_0_0 : w9.cell? ⟨w1.heap.size, 0, none⟩ = some (.int .i64 p) := by go_simp
       have kb9_0_1 : w9.cell? ⟨w1.heap.size, 1, none⟩ = some (.int .i64 q) := by go_simp
       have kb9_0_2 : w9.cell? ⟨w1.heap.size, 2, none⟩ = some (.slice a2 L.length c2) := by go_simp
       have kb9_1_0 : w9.cell? ⟨w3.heap.size, 0, none⟩ = some (.int .i64 rp) := by go_simp
       have kb9_1_1 : w9.cell? ⟨w3.heap.size, 1, none⟩ = some (.int .i64 rq) := by go_simp
       have kb9_1_2 : w9.cell? ⟨w3.heap.size, 2, none⟩ = some (.slice a3 R.length c3) := by go_simp
       have HB9 := Lib.hid (HB8.out.trans (hN9.mono zl))
       have HR9_tab := Lib.hid (HR8_tab.out.below hN9 zl)
       have HR9_err := Lib.hid (HR8_err.out.below hN9 zl)
       have HR9_p := Lib.hid (HR8_p.out.below hN9 zl)
       have HR9_ss := Lib.hid (HR8_ss.out.below hN9 zl)
       have HR9_x := Lib.hid (HR8_x.out.below hN9 zl)
       have HR9_xs := Lib.hid (HR8_xs.out.below hN9 zl)
       clear hc9 hf9 hb9 hN9 hz9
       have hT0 : X.take 0 = [] := rfl
       have hX0 : X = [] := List.length_eq_zero_iff.1 hl0
       have hV0 : X.drop 0 = [] := by rw [hX0]; rfl
       have hq2 : ((X.length : Int)).tdiv 2 = 0 := by rw [hl0]; rfl
       have HX0 := Lib.hid hX0
       have HL0 := Lib.hid hl0
       have h0X : (0 : Int) ≤ (X.length : Int) := by omega
       clear hX0 hl0
       go_wp2_with fail
       go_cut [10, 11] from 70 (fun s_ t_ wx => ∃ (b5 B5 C5 : Nat) (a5 : Option Addr) (c5 : Nat) (e5 : Option Addr) (k5 S5 T5 : Nat), s_ = .pointer (some ⟨b5, 0, none⟩) ∧ t_ = .slice e5 F.length k5 ∧ (w9.heap.size ≤ b5 ∧ b5 < wx.heap.size) ∧ (wx.cell? ⟨b5, 0, none⟩ = some (.int .i64 up) ∧ wx.cell? ⟨b5, 1, none⟩ = some (.int .i64 uq) ∧ wx.cell? ⟨b5, 2, none⟩ = some (.slice a5 U.length c5)) ∧ IsPairs B5 C5 wx (.slice a5 U.length c5) U ∧ (w9.heap.size ≤ B5 ∧ C5 ≤ wx.heap.size) ∧ IsStrs S5 T5 wx (.slice e5 F.length k5) F.length (txtAt F) ∧ (w9.heap.size ≤ S5 ∧ T5 ≤ wx.heap.size) ∧ Below w9.heap.size w9 wx)
       case first =>
         go_region_held3 (fun W_ => W_.cell? ⟨w1.heap.size, 0, none⟩ = some (.int .i64 p) ∧ W_.cell? ⟨w1.heap.size, 1, none⟩ = some (.int .i64 q) ∧ W_.cell? ⟨w1.heap.size, 2, none⟩ = some (.slice a2 L.length c2))
           ((go_split_ands; refine ⟨?_, ?_, ?_⟩ <;> (repeat (first | with_reducible assumption | with_reducible refine cell_alloc_is _ ?_ | with_reducible refine cell_drew_is ?_ | with_reducible refine cell_set_is ?_ ?_ | omega)); done))
           ((first | (go_at_call 25; refine (HT1.out _ _ _ _ _ _ _ _ (HR9_p.out.below (show Below w9.heap.size w9 _ by exact zb) zO) (strs_none _ _ _ _ hT0 (by first | rfl | exact HL0.out)) (HR9_tab.out.below (show Below w9.heap.size w9 _ by exact zb) zl) (HR9_err.out.below (show Below w9.heap.size w9 _ by exact zb) zl)).mono ?_; rintro e w_4 ⟨a4, c4, e4, k4, P4, Q4, S4, T4, rfl, hI4, hJ4, ⟨hp4, hq4, hd4⟩, hb_4⟩; obtain ⟨hc_4, hf_4⟩ := bcell hb_4; have hz_4 := hb_4.size; (try simp at hz_4); have kx0 := (hb_4.cell (p := ⟨w1.heap.size, 0, none⟩) zo).trans (show _ = some (.int .i64 p) by (repeat (first | with_reducible assumption | with_reducible refine cell_alloc_is _ ?_ | with_reducible refine cell_drew_is ?_ | with_reducible refine cell_set_is ?_ ?_ | omega))); have kx1 := (hb_4.cell (p := ⟨w1.heap.size, 1, none⟩) zo).trans (show _ = some (.int .i64 q) by (repeat (first | with_reducible assumption | with_reducible refine cell_alloc_is _ ?_ | with_reducible refine cell_drew_is ?_ | with_reducible refine cell_set_is ?_ ?_ | omega))); have kx2 := (hb_4.cell (p := ⟨w1.heap.size, 2, none⟩) zo).trans (show _ = some (.slice a2 L.length c2) by (repeat (first | with_reducible assumption | with_reducible refine cell_alloc_is _ ?_ | with_reducible refine cell_drew_is ?_ | with_reducible refine cell_set_is ?_ ?_ | omega))); have hQ4 : Q4 ≤ w_4.heap.size := (by obtain ⟨_, _, _, h, _⟩ := id hI4; exact h); have hT4 : T4 ≤ w_4.heap.size := (by obtain ⟨_, _, _, h, _⟩ := id hJ4; exact h); (try simp at hp4); (try simp at hq4); (try have hq_4_w9 : w9.heap.size < w_4.heap.size := by omega)) | fail))
         all_goals (go_wp2_with fail; go_meet)
         all_goals
           case rel =>
             refine ⟨_, P4, Q4, a4, c4, e4, k4, S4, T4, rfl, rfl, ⟨?_, ?_⟩, ⟨?_, ?_, ?_⟩, ?_, ⟨?_, ?_⟩, ?_, ⟨?_, ?_⟩, ?_⟩
             · first | omega | (simp <;> omega)
             · first | omega | (simp <;> omega)
             · go_simp
             · go_simp
             · go_simp
             · (repeat (first | exact hI4 | refine IsPairs.set2 ?_ zo _ | refine IsPairs.allocd ?_ _))
             · first | omega | (simp <;> omega)
             · first | omega | (simp <;> omega)
             · (repeat (first | exact hJ4 | refine IsStrs.set2 ?_ zo _ | refine IsStrs.allocd ?_ _))
             · first | omega | (simp <;> omega)
             · first | omega | (simp <;> omega)
             · exact zb
       rename World => w10
       obtain ⟨b10, P10, Q10, a10, c10, e10, k10, S10, T10, rfl, rfl, ⟨hb10a, hb10b⟩, ⟨kq10_0, kq10_1, kq10_2⟩, hI10, ⟨hp10, hQ10⟩, hJ10, ⟨hq10, hT10⟩, hN10⟩ := hcut
       obtain ⟨hc10, hf10⟩ := bcell hN10
       have hn10 := hN10.size
       have hs10_0 : w1.heap.size < w10.heap.size := by omega
       have hs10_1 : w3.heap.size < w10.heap.size := by omega
       have kb10_0_0 : w10.cell? ⟨w1.heap.size, 0, none⟩ = some (.int .i64 p) := by go_simp
       have kb10_0_1 : w10.cell? ⟨w1.heap.size, 1, none⟩ = some (.int .i64 q) := by go_simp
       have kb10_0_2 : w10.cell? ⟨w1.heap.size, 2, none⟩ = some (.slice a2 L.length c2) := by go_simp
       have kb10_1_0 : w10.cell? ⟨w3.heap.size, 0, none⟩ = some (.int .i64 rp) := by go_simp
       have kb10_1_1 : w10.cell? ⟨w3.heap.size, 1, none⟩ = some (.int .i64 rq) := by go_simp
       have kb10_1_2 : w10.cell? ⟨w3.heap.size, 2, none⟩ = some (.slice a3 R.length c3) := by go_simp
       have HB10 := Lib.hid (HB9.out.trans (hN10.mono zl))
       have HR10_tab := Lib.hid (HR9_tab.out.below hN10 zl)
       have HR10_err := Lib.hid (HR9_err.out.below hN10 zl)
       have HR10_p := Lib.hid (HR9_p.out.below hN10 zl)
       have HR10_ss := Lib.hid (HR9_ss.out.below hN10 zl)
       have HR10_x := Lib.hid (HR9_x.out.below hN10 zl)
       have HR10_xs := Lib.hid (HR9_xs.out.below hN10 zl)
       clear hc10 hf10 hN10
       have HR10_u := Lib.hid (hI10)
       have HR10_f := Lib.hid (hJ10)
       clear hI10 hJ10
       go_wp2_with fail
       go_cut [12, 13] from 78 (fun s_ t_ wx => ∃ (b5 B5 C5 : Nat) (a5 : Option Addr) (c5 : Nat) (e5 : Option Addr) (k5 S5 T5 : Nat), s_ = .pointer (some ⟨b5, 0, none⟩) ∧ t_ = .slice e5 G.length k5 ∧ (w10.heap.size ≤ b5 ∧ b5 < wx.heap.size) ∧ (wx.cell? ⟨b5, 0, none⟩ = some (.int .i64 rp) ∧ wx.cell? ⟨b5, 1, none⟩ = some (.int .i64 rq) ∧ wx.cell? ⟨b5, 2, none⟩ = some (.slice a5 R.length c5)) ∧ IsPairs B5 C5 wx (.slice a5 R.length c5) R ∧ (w10.heap.size ≤ B5 ∧ C5 ≤ wx.heap.size) ∧ IsStrs S5 T5 wx (.slice e5 G.length k5) G.length (txtAt G) ∧ (w10.heap.size ≤ S5 ∧ T5 ≤ wx.heap.size) ∧ Below w10.heap.size w10 wx)
       case first =>
         go_region_held3 (fun W_ => W_.cell? ⟨b10, 0, none⟩ = some (.int .i64 up) ∧ W_.cell? ⟨b10, 1, none⟩ = some (.int .i64 uq) ∧ W_.cell? ⟨b10, 2, none⟩ = some (.slice a10 U.length c10))
           ((go_split_ands; refine ⟨?_, ?_, ?_⟩ <;> (repeat (first | with_reducible assumption | with_reducible refine cell_alloc_is _ ?_ | with_reducible refine cell_drew_is ?_ | with_reducible refine cell_set_is ?_ ?_ | omega)); done))
           ((first | (go_at_call 25; refine (HT2.out _ _ _ _ _ _ _ _ (HR10_u.out.below (show Below w10.heap.size w10 _ by exact zb) zO) (strs_none _ _ _ _ hV0 (by first | rfl | exact HL0.out | (rw [Nat.sub_zero]; exact HL0.out))) (HR10_tab.out.below (show Below w10.heap.size w10 _ by exact zb) zl) (HR10_err.out.below (show Below w10.heap.size w10 _ by exact zb) zl)).mono ?_; rintro e w_4 ⟨a4, c4, e4, k4, P4, Q4, S4, T4, rfl, hI4, hJ4, ⟨hp4, hq4, hd4⟩, hb_4⟩; obtain ⟨hc_4, hf_4⟩ := bcell hb_4; have hz_4 := hb_4.size; (try simp at hz_4); have kx0 := (hb_4.cell (p := ⟨b10, 0, none⟩) zo).trans (show _ = some (.int .i64 up) by (repeat (first | with_reducible assumption | with_reducible refine cell_alloc_is _ ?_ | with_reducible refine cell_drew_is ?_ | with_reducible refine cell_set_is ?_ ?_ | omega))); have kx1 := (hb_4.cell (p := ⟨b10, 1, none⟩) zo).trans (show _ = some (.int .i64 uq) by (repeat (first | with_reducible assumption | with_reducible refine cell_alloc_is _ ?_ | with_reducible refine cell_drew_is ?_ | with_reducible refine cell_set_is ?_ ?_ | omega))); have kx2 := (hb_4.cell (p := ⟨b10, 2, none⟩) zo).trans (show _ = some (.slice a10 U.length c10) by (repeat (first | with_reducible assumption | with_reducible refine cell_alloc_is _ ?_ | with_reducible refine cell_drew_is ?_ | with_reducible refine cell_set_is ?_ ?_ | omega))); have hQ4 : Q4 ≤ w_4.heap.size := (by obtain ⟨_, _, _, h, _⟩ := id hI4; exact h); have hT4 : T4 ≤ w_4.heap.size := (by obtain ⟨_, _, _, h, _⟩ := id hJ4; exact h); (try simp at hp4); (try simp at hq4); (try have hq_4_w10 : w10.heap.size < w_4.heap.size := by omega)) | fail))
         all_goals (go_wp2_with fail; go_meet)
         all_goals
           case rel =>
             refine ⟨_, P4, Q4, a4, c4, e4, k4, S4, T4, rfl, rfl, ⟨?_, ?_⟩, ⟨?_, ?_, ?_⟩, ?_, ⟨?_, ?_⟩, ?_, ⟨?_, ?_⟩, ?_⟩
             · first | omega | (simp <;> omega)
             · first | omega | (simp <;> omega)
             · go_simp
             · go_simp
             · go_simp
             · (repeat (first | exact hI4 | refine IsPairs.set2 ?_ zo _ | refine IsPairs.allocd ?_ _))
             · first | omega | (simp <;> omega)
             · first | omega | (simp <;> omega)
             · (repeat (first | exact hJ4 | refine IsStrs.set2 ?_ zo _ | refine IsStrs.allocd ?_ _))
             · first | omega | (simp <;> omega)
             · first | omega | (simp <;> omega)
             · exact zb
       rename World => w11
       obtain ⟨b12, P12, Q12, a12, c12, e12, k12, S12, T12, rfl, rfl, ⟨hb12a, hb12b⟩, ⟨kq12_0, kq12_1, kq12_2⟩, hI12, ⟨hp12, hQ12⟩, hJ12, ⟨hq12, hT12⟩, hN11⟩ := hcut
       obtain ⟨hc11, hf11⟩ := bcell hN11
       have hn11 := hN11.size
       have hs11_0 : w1.heap.size < w11.heap.size := by omega
       have hs11_1 : w3.heap.size < w11.heap.size := by omega
       have hs11_2 : b10 < w11.heap.size := by omega
       have kb11_0_0 : w11.cell? ⟨w1.heap.size, 0, none⟩ = some (.int .i64 p) := by go_simp
       have kb11_0_1 : w11.cell? ⟨w1.heap.size, 1, none⟩ = some (.int .i64 q) := by go_simp
       have kb11_0_2 : w11.cell? ⟨w1.heap.size, 2, none⟩ = some (.slice a2 L.length c2) := by go_simp
       have kb11_1_0 : w11.cell? ⟨w3.heap.size, 0, none⟩ = some (.int .i64 rp) := by go_simp
       have kb11_1_1 : w11.cell? ⟨w3.heap.size, 1, none⟩ = some (.int .i64 rq) := by go_simp
       have kb11_1_2 : w11.cell? ⟨w3.heap.size, 2, none⟩ = some (.slice a3 R.length c3) := by go_simp
       have kb11_2_0 : w11.cell? ⟨b10, 0, none⟩ = some (.int .i64 up) := by go_simp
       have kb11_2_1 : w11.cell? ⟨b10, 1, none⟩ = some (.int .i64 uq) := by go_simp
       have kb11_2_2 : w11.cell? ⟨b10, 2, none⟩ = some (.slice a10 U.length c10) := by go_simp
       have HB11 := Lib.hid (HB10.out.trans (hN11.mono zl))
       have HR11_tab := Lib.hid (HR10_tab.out.below hN11 zl)
       have HR11_err := Lib.hid (HR10_err.out.below hN11 zl)
       have HR11_p := Lib.hid (HR10_p.out.below hN11 zl)
       have HR11_ss := Lib.hid (HR10_ss.out.below hN11 zl)
       have HR11_x := Lib.hid (HR10_x.out.below hN11 zl)
       have HR11_xs := Lib.hid (HR10_xs.out.below hN11 zl)
       have HR11_u := Lib.hid (HR10_u.out.below hN11 zl)
       have HR11_f := Lib.hid (HR10_f.out.below hN11 zl)
       clear hc11 hf11 hN11
       have HR11_v := Lib.hid (hI12)
       have HR11_g := Lib.hid (hJ12)
       clear hI12 hJ12
       have HXL := Lib.hid (HR11_xs.out)
       go_wp2_with fail
       go_loop [14] (fun x => ∃ k : Nat, k ≤ A.length ∧ x = .int .i64 k) (fun x => A.length - (intOf x).toNat)
       case atStart => exact ⟨0, Nat.zero_le _, rfl⟩
       case round =>
         obtain ⟨k, hk, rfl⟩ := hrel
         by_cases hlt : k < A.length
         · obtain ⟨_, _, hve, _, hks⟩ := id HXL.out
           obtain ⟨rfl, rfl⟩ := (by simpa using hve : e3 = _ ∧ k3 = _)
           rcases hks with hks | ⟨g, off, rfl, _, hg2, hc, _⟩
           · omega
           have x0 := hc k hlt
           obtain ⟨s, hs⟩ : ∃ s, txtAt A k = s := ⟨_, rfl⟩
           have hne := HNE.out k hlt
           rw [hs] at x0 hne
           have hn1 : ¬ s.toList = [] := by rw [bl_toList]; intro e; apply hne; rw [← bl_size, e]; rfl
           have hn2 : s.toList.isEmpty = false := by rw [List.isEmpty_eq_false_iff]; exact hn1
           have hn3 : (s.toList == []) = false := by rw [beq_eq_false_iff_ne]; exact hn1
           have hki : (k : Int) < (A.length : Int) := by omega
           have hk0 : (0 : Int) ≤ (k : Int) := by omega
           clear hc hs hne
           go_wp2
           go_round
           case rel => exact ⟨k + 1, by omega, congrArg (Value.int .i64) zO⟩
           case measure => simp [intOf]; omega
         · obtain rfl : k = A.length := by omega
           have hki : ¬ ((A.length : Int) < (A.length : Int)) := by omega
           clear HXL HNE hlt
           go_wp2_with fail
           refine (HW.out _ _ _ _ _ HR11_x.out HR11_tab.out HR11_err.out).mono ?_
           rintro e w12 ⟨a6, c6, rfl, hI6, hb12⟩
           obtain ⟨hc12, hf12⟩ := bcell hb12
           have hz12 := hb12.size
           try simp at hz12
           have hN12 : Below w11.heap.size w11 w12 := by
             refine Below.trans ?_ (hb12.mono zo)
             exact zb
           have hn12 := hN12.size
           have hs12_0 : w3.heap.size < w12.heap.size := by omega
           have hs12_1 : b12 < w12.heap.size := by omega
           have kb12_0_0 : w12.cell? ⟨w3.heap.size, 0, none⟩ = some (.int .i64 rp) := by go_simp
           have kb12_0_1 : w12.cell? ⟨w3.heap.size, 1, none⟩ = some (.int .i64 rq) := by go_simp
           have kb12_0_2 : w12.cell? ⟨w3.heap.size, 2, none⟩ = some (.slice a3 R.length c3) := by go_simp
           have kb12_1_0 : w12.cell? ⟨b12, 0, none⟩ = some (.int .i64 rp) := by go_simp
           have kb12_1_1 : w12.cell? ⟨b12, 1, none⟩ = some (.int .i64 rq) := by go_simp
           have kb12_1_2 : w12.cell? ⟨b12, 2, none⟩ = some (.slice a12 R.length c12) := by go_simp
           have HB12 := Lib.hid (HB11.out.trans (hN12.mono zl))
           have HR12_tab := Lib.hid (HR11_tab.out.below hN12 zl)
           have HR12_err := Lib.hid (HR11_err.out.below hN12 zl)
           have HR12_x := Lib.hid (HR11_x.out.below hN12 zl)
           have HR12_xs := Lib.hid (HR11_xs.out.below hN12 zl)
           have HR12_f := Lib.hid (HR11_f.out.below hN12 zl)
           have HR12_v := Lib.hid (HR11_v.out.below hN12 zl)
           have HR12_g := Lib.hid (HR11_g.out.below hN12 zl)
           clear hc12 hf12 hb12 hN12 hz12
           clear hI6
           go_wp2_with fail
           refine calls_namedD ?_
           intro w13 hw13
           have hN13 : Below w12.heap.size w12 w13 := by
             rw [hw13]
             exact zb
           have hz13 : w13.heap.size = _ := congrArg (fun W : World => W.heap.size) hw13
           try simp at hz13
           have hn13 := hN13.size
           have hs13_0 : w3.heap.size < w13.heap.size := by omega
           have hs13_1 : b12 < w13.heap.size := by omega
           have kb13_0_0 : w13.cell? ⟨w3.heap.size, 0, none⟩ = some (.int .i64 rp) := by rw [hw13]; go_simp
           have kb13_0_1 : w13.cell? ⟨w3.heap.size, 1, none⟩ = some (.int .i64 rq) := by rw [hw13]; go_simp
           have kb13_0_2 : w13.cell? ⟨w3.heap.size, 2, none⟩ = some (.slice a3 R.length c3) := by rw [hw13]; go_simp
           have kb13_1_0 : w13.cell? ⟨b12, 0, none⟩ = some (.int .i64 rp) := by rw [hw13]; go_simp
           have kb13_1_1 : w13.cell? ⟨b12, 1, none⟩ = some (.int .i64 rq) := by rw [hw13]; go_simp
           have kb13_1_2 : w13.cell? ⟨b12, 2, none⟩ = some (.slice a12 R.length c12) := by rw [hw13]; go_simp
           have HB13 := Lib.hid (HB12.out.trans (hN13.mono zl))
           have HR13_tab := Lib.hid (HR12_tab.out.below hN13 zl)
           have HR13_err := Lib.hid (HR12_err.out.below hN13 zl)
           have HR13_x := Lib.hid (HR12_x.out.below hN13 zl)
           have HR13_xs := Lib.hid (HR12_xs.out.below hN13 zl)
           have HR13_f := Lib.hid (HR12_f.out.below hN13 zl)
           have HR13_v := Lib.hid (HR12_v.out.below hN13 zl)
           have HR13_g := Lib.hid (HR12_g.out.below hN13 zl)
           clear hw13 hN13 hz13
           refine (HC.out _ _ _ _ _ HR13_x.out HR13_tab.out HR13_err.out).mono ?_
           rintro e w14 ⟨a7, c7, rfl, hI7, hb14⟩
           obtain ⟨hc14, hf14⟩ := bcell hb14
           have hz14 := hb14.size
           try simp at hz14
           have hN14 : Below w13.heap.size w13 w14 := by
             refine Below.trans ?_ (hb14.mono zo)
             exact zb
           have hn14 := hN14.size
           have hs14_0 : w3.heap.size < w14.heap.size := by omega
           have hs14_1 : b12 < w14.heap.size := by omega
           have kb14_0_0 : w14.cell? ⟨w3.heap.size, 0, none⟩ = some (.int .i64 rp) := by go_simp
           have kb14_0_1 : w14.cell? ⟨w3.heap.size, 1, none⟩ = some (.int .i64 rq) := by go_simp
           have kb14_0_2 : w14.cell? ⟨w3.heap.size, 2, none⟩ = some (.slice a3 R.length c3) := by go_simp
           have kb14_1_0 : w14.cell? ⟨b12, 0, none⟩ = some (.int .i64 rp) := by go_simp
           have kb14_1_1 : w14.cell? ⟨b12, 1, none⟩ = some (.int .i64 rq) := by go_simp
           have kb14_1_2 : w14.cell? ⟨b12, 2, none⟩ = some (.slice a12 R.length c12) := by go_simp
           have HB14 := Lib.hid (HB13.out.trans (hN14.mono zl))
           have HR14_tab := Lib.hid (HR13_tab.out.below hN14 zl)
           have HR14_err := Lib.hid (HR13_err.out.below hN14 zl)
           have HR14_x := Lib.hid (HR13_x.out.below hN14 zl)
           have HR14_xs := Lib.hid (HR13_xs.out.below hN14 zl)
           have HR14_f := Lib.hid (HR13_f.out.below hN14 zl)
           have HR14_v := Lib.hid (HR13_v.out.below hN14 zl)
           have HR14_g := Lib.hid (HR13_g.out.below hN14 zl)
           clear hc14 hf14 hb14 hN14 hz14
           clear hI7
           go_wp2_with fail
           refine calls_namedD ?_
           intro w15 hw15
           have hN15 : Below w14.heap.size w14 w15 := by
             rw [hw15]
             exact zb
           have hz15 : w15.heap.size = _ := congrArg (fun W : World => W.heap.size) hw15
           try simp at hz15
           have hn15 := hN15.size
           have hs15_0 : w3.heap.size < w15.heap.size := by omega
           have hs15_1 : b12 < w15.heap.size := by omega
           have kb15_0_0 : w15.cell? ⟨w3.heap.size, 0, none⟩ = some (.int .i64 rp) := by rw [hw15]; go_simp
           have kb15_0_1 : w15.cell? ⟨w3.heap.size, 1, none⟩ = some (.int .i64 rq) := by rw [hw15]; go_simp
           have kb15_0_2 : w15.cell? ⟨w3.heap.size, 2, none⟩ = some (.slice a3 R.length c3) := by rw [hw15]; go_simp
           have kb15_1_0 : w15.cell? ⟨b12, 0, none⟩ = some (.int .i64 rp) := by rw [hw15]; go_simp
           have kb15_1_1 : w15.cell? ⟨b12, 1, none⟩ = some (.int .i64 rq) := by rw [hw15]; go_simp
           have kb15_1_2 : w15.cell? ⟨b12, 2, none⟩ = some (.slice a12 R.length c12) := by rw [hw15]; go_simp
           have HB15 := Lib.hid (HB14.out.trans (hN15.mono zl))
           have HR15_tab := Lib.hid (HR14_tab.out.below hN15 zl)
           have HR15_err := Lib.hid (HR14_err.out.below hN15 zl)
           have HR15_x := Lib.hid (HR14_x.out.below hN15 zl)
           have HR15_xs := Lib.hid (HR14_xs.out.below hN15 zl)
           have HR15_f := Lib.hid (HR14_f.out.below hN15 zl)
           have HR15_v := Lib.hid (HR14_v.out.below hN15 zl)
           have HR15_g := Lib.hid (HR14_g.out.below hN15 zl)
           clear hw15 hN15 hz15
           refine (sameDesk_yes _ _ _ _ rp rq _ _ R _ HR15_v.out HR15_x.out hRn).mono ?_
           rintro e w16 ⟨rfl, hb16⟩
           obtain ⟨hc16, hf16⟩ := bcell hb16
           have hz16 := hb16.size
           try simp at hz16
           have hN16 : Below w15.heap.size w15 w16 := by
             refine Below.trans ?_ (hb16.mono zo)
             exact zb
           have hn16 := hN16.size
           have hs16_0 : w3.heap.size < w16.heap.size := by omega
           have hs16_1 : b12 < w16.heap.size := by omega
           have kb16_0_0 : w16.cell? ⟨w3.heap.size, 0, none⟩ = some (.int .i64 rp) := by go_simp
           have kb16_0_1 : w16.cell? ⟨w3.heap.size, 1, none⟩ = some (.int .i64 rq) := by go_simp
           have kb16_0_2 : w16.cell? ⟨w3.heap.size, 2, none⟩ = some (.slice a3 R.length c3) := by go_simp
           have kb16_1_0 : w16.cell? ⟨b12, 0, none⟩ = some (.int .i64 rp) := by go_simp
           have kb16_1_1 : w16.cell? ⟨b12, 1, none⟩ = some (.int .i64 rq) := by go_simp
           have kb16_1_2 : w16.cell? ⟨b12, 2, none⟩ = some (.slice a12 R.length c12) := by go_simp
           have HB16 := Lib.hid (HB15.out.trans (hN16.mono zl))
           have HR16_tab := Lib.hid (HR15_tab.out.below hN16 zl)
           have HR16_err := Lib.hid (HR15_err.out.below hN16 zl)
           have HR16_x := Lib.hid (HR15_x.out.below hN16 zl)
           have HR16_xs := Lib.hid (HR15_xs.out.below hN16 zl)
           have HR16_f := Lib.hid (HR15_f.out.below hN16 zl)
           have HR16_v := Lib.hid (HR15_v.out.below hN16 zl)
           have HR16_g := Lib.hid (HR15_g.out.below hN16 zl)
           clear hc16 hf16 hb16 hN16 hz16
           have hm0 : (w16.alloc (.cells #[] 9)).ownsRow w16.heap.size 9 1 (.slice (some ⟨w16.heap.size, 0, none⟩) 0 0) 0 [] := World.ownsRow_made w16 #[] 0 (Nat.le_refl _) (by unfold maxLen; omega) rfl
           go_wp2_with (at_builtin; refine wpList_append_texts _ (by first | rfl | kernel_rfl | go_simp | simp [Region.wanted, yielded]) _ _ 49 rfl w16.heap.size 9 i0 (.string ⟨#[]⟩) 16 Tryz.underlying49 hi0 hz0 hzs1 hz2' rfl (.slice (some ⟨w16.heap.size, 0, none⟩) 0 0) 0 [] rfl hm0 _ _ _ F rfl (HR16_f.out.allocd _) F.length zO (byteC F) (by simp) (by unfold maxLen; omega) zO (by simp) ?_)
           intro a8 c8 w8 hown8 hgrow8
           have hz8 := hgrow8.size
           simp at hz8
           have hu8 : Below w16.heap.size w16 w8 := ((Below.refl _ _).alloc (Nat.le_refl _) _).grown hgrow8 (by simp) (fun g e => by simp [Value.ownBlock] at e; omega)
           have HO8 := Lib.hid hown8
           have HG8 := Lib.hid (HR16_g.out.below hu8 zl)
           have HX8 := Lib.hid (HR16_xs.out.below hu8 zl)
           have HU8 := Lib.hid hu8
           clear hown8 hgrow8 hm0 hu8
           go_wp2_with (at_builtin; refine wpList_append_texts _ (by first | rfl | kernel_rfl | go_simp | simp [Region.wanted, yielded]) _ _ 49 rfl w16.heap.size 9 i0 (.string ⟨#[]⟩) 16 Tryz.underlying49 hi0 hz0 hzs1 hz2' rfl (.slice a8 F.length c8) F.length (byteC F) rfl HO8.out _ _ _ G rfl HG8.out (F.length + G.length) rfl (byteC (F ++ G)) (byteC_append _ _) (by unfold maxLen; omega) zO zO ?_)
           intro a9 c9 w9 hown9 hgrow9
           have hz9 := hgrow9.size
           have hu9 : Below w16.heap.size w16 w9 := HU8.out.grown hgrow9 zO (fun g e => ((HO8.out.lt g e).1))
           have hS9 := strs_own hown9 (by simp)
           have HS9 := Lib.hid hS9
           have HU9 := Lib.hid hu9
           have HX9 := Lib.hid (HR16_xs.out.below hu9 zl)
           clear hown9 hgrow9 hu9 hS9 HX8 HG8 HU8 HO8
           have hs9 := HS9.out
           rw [HAF.out] at hs9
           have HS9' := Lib.hid hs9
           clear hs9 HS9
           go_wp2_with fail
           refine (sameTexts_same _ _ _ _ A.length _ _ (txtAt A) _ HS9'.out HX9.out zO).mono ?_
           rintro e w10 ⟨rfl, hb10⟩
           have hAX := HAX.out
           have HBE := Lib.hid (HB16.out.trans ((HU9.out.mono zO).trans (hb10.mono zO)))
           clear hb10
           go_wp2
           go_ret
           exact ⟨rfl, HBE.out⟩
     · have hq2 : ((X.length : Int)).tdiv 2 = (h2 : Int) := by rw [Int.tdiv_eq_ediv_of_nonneg zO]; omega
       clear hh2
       go_wp2_with fail
       refine (specOk_is _ _ p q L _ _ HR8_p.out hn true HD.out).mono ?_
       rintro e w9 ⟨rfl, hb9⟩
       obtain ⟨hc9, hf9⟩ := bcell hb9
       have hz9 := hb9.size
       try simp at hz9
       have hN9 : Below w8.heap.size w8 w9 := by
         refine Below.trans ?_ (hb9.mono zo)
         exact zb
       have hn9 := hN9.size
       have hs9_0 : w1.heap.size < w9.heap.size := by omega
       have hs9_1 : w3.heap.size < w9.heap.size := by omega
       have kb9_0_0 : w9.cell? ⟨w1.heap.size, 0, none⟩ = some (.int .i64 p) := by go_simp
       have kb9_0_1 : w9.cell? ⟨w1.heap.size, 1, none⟩ = some (.int .i64 q) := by go_simp
       have kb9_0_2 : w9.cell? ⟨w1.heap.size, 2, none⟩ = some (.slice a2 L.length c2) := by go_simp
       have kb9_1_0 : w9.cell? ⟨w3.heap.size, 0, none⟩ = some (.int .i64 rp) := by go_simp
       have kb9_1_1 : w9.cell? ⟨w3.heap.size, 1, none⟩ = some (.int .i64 rq) := by go_simp
       have kb9_1_2 : w9.cell? ⟨w3.heap.size, 2, none⟩ = some (.slice a3 R.length c3) := by go_simp
       have HB9 := Lib.hid (HB8.out.trans (hN9.mono zl))
       have HR9_tab := Lib.hid (HR8_tab.out.below hN9 zl)
       have HR9_err := Lib.hid (HR8_err.out.below hN9 zl)
       have HR9_p := Lib.hid (HR8_p.out.below hN9 zl)
       have HR9_ss := Lib.hid (HR8_ss.out.below hN9 zl)
       have HR9_x := Lib.hid (HR8_x.out.below hN9 zl)
       have HR9_xs := Lib.hid (HR8_xs.out.below hN9 zl)
       clear hc9 hf9 hb9 hN9 hz9
       have hkc : h2 ≤ d3 := by omega
       have hT := strs_take HR9_ss.out h2 hh
       obtain ⟨v2, d2, hs2, hV⟩ := strs_drop HR9_ss.out h2 hh hh0 hcap
       have hd2 : ¬ d3 = h2 := by omega
       have hd2' : ¬ h2 = d3 := by omega
       have hd0' : ¬ 0 = d3 := by omega
       have hs2' := hs2
       simp [sliced, hd2] at hs2'
       obtain ⟨hv2, hw2⟩ := hs2'
       rw [← hv2, ← hw2] at hV
       clear hs2 hv2 hw2
       have HR9_tt := Lib.hid (hT)
       have HR9_vv := Lib.hid (hV)
       clear hT hV
       have hk3 : ((h2 : Int) ≤ (d3 : Int)) := by omega
       have hw2 : IntKind.i64.wrap (h2 : Int) = (h2 : Int) := by rw [IntKind.wrap_i64]; omega
       have hh0' : (0 : Int) ≤ (h2 : Int) := by omega
       have hhX : (h2 : Int) ≤ (X.length : Int) := by omega
       go_wp2_with fail
       go_cut [10, 11] from 70 (fun s_ t_ wx => ∃ (b5 B5 C5 : Nat) (a5 : Option Addr) (c5 : Nat) (e5 : Option Addr) (k5 S5 T5 : Nat), s_ = .pointer (some ⟨b5, 0, none⟩) ∧ t_ = .slice e5 F.length k5 ∧ (w9.heap.size ≤ b5 ∧ b5 < wx.heap.size) ∧ (wx.cell? ⟨b5, 0, none⟩ = some (.int .i64 up) ∧ wx.cell? ⟨b5, 1, none⟩ = some (.int .i64 uq) ∧ wx.cell? ⟨b5, 2, none⟩ = some (.slice a5 U.length c5)) ∧ IsPairs B5 C5 wx (.slice a5 U.length c5) U ∧ (w9.heap.size ≤ B5 ∧ C5 ≤ wx.heap.size) ∧ IsStrs S5 T5 wx (.slice e5 F.length k5) F.length (txtAt F) ∧ (w9.heap.size ≤ S5 ∧ T5 ≤ wx.heap.size) ∧ Below w9.heap.size w9 wx)
       case first =>
         go_region_held3 (fun W_ => W_.cell? ⟨w1.heap.size, 0, none⟩ = some (.int .i64 p) ∧ W_.cell? ⟨w1.heap.size, 1, none⟩ = some (.int .i64 q) ∧ W_.cell? ⟨w1.heap.size, 2, none⟩ = some (.slice a2 L.length c2))
           ((go_split_ands; refine ⟨?_, ?_, ?_⟩ <;> (repeat (first | with_reducible assumption | with_reducible refine cell_alloc_is _ ?_ | with_reducible refine cell_drew_is ?_ | with_reducible refine cell_set_is ?_ ?_ | omega)); done))
           ((first | (go_at_call 25; refine (HT1.out _ _ _ _ _ _ _ _ (HR9_p.out.below (show Below w9.heap.size w9 _ by exact zb) zO) (HR9_tt.out.below (show Below w9.heap.size w9 _ by exact zb) zO) (HR9_tab.out.below (show Below w9.heap.size w9 _ by exact zb) zl) (HR9_err.out.below (show Below w9.heap.size w9 _ by exact zb) zl)).mono ?_; rintro e w_4 ⟨a4, c4, e4, k4, P4, Q4, S4, T4, rfl, hI4, hJ4, ⟨hp4, hq4, hd4⟩, hb_4⟩; obtain ⟨hc_4, hf_4⟩ := bcell hb_4; have hz_4 := hb_4.size; (try simp at hz_4); have kx0 := (hb_4.cell (p := ⟨w1.heap.size, 0, none⟩) zo).trans (show _ = some (.int .i64 p) by (repeat (first | with_reducible assumption | with_reducible refine cell_alloc_is _ ?_ | with_reducible refine cell_drew_is ?_ | with_reducible refine cell_set_is ?_ ?_ | omega))); have kx1 := (hb_4.cell (p := ⟨w1.heap.size, 1, none⟩) zo).trans (show _ = some (.int .i64 q) by (repeat (first | with_reducible assumption | with_reducible refine cell_alloc_is _ ?_ | with_reducible refine cell_drew_is ?_ | with_reducible refine cell_set_is ?_ ?_ | omega))); have kx2 := (hb_4.cell (p := ⟨w1.heap.size, 2, none⟩) zo).trans (show _ = some (.slice a2 L.length c2) by (repeat (first | with_reducible assumption | with_reducible refine cell_alloc_is _ ?_ | with_reducible refine cell_drew_is ?_ | with_reducible refine cell_set_is ?_ ?_ | omega))); have hQ4 : Q4 ≤ w_4.heap.size := (by obtain ⟨_, _, _, h, _⟩ := id hI4; exact h); have hT4 : T4 ≤ w_4.heap.size := (by obtain ⟨_, _, _, h, _⟩ := id hJ4; exact h); (try simp at hp4); (try simp at hq4); (try have hq_4_w9 : w9.heap.size < w_4.heap.size := by omega)) | fail))
         all_goals (go_wp2_with fail; go_meet)
         all_goals
           case rel =>
             refine ⟨_, P4, Q4, a4, c4, e4, k4, S4, T4, rfl, rfl, ⟨?_, ?_⟩, ⟨?_, ?_, ?_⟩, ?_, ⟨?_, ?_⟩, ?_, ⟨?_, ?_⟩, ?_⟩
             · first | omega | (simp <;> omega)
             · first | omega | (simp <;> omega)
             · go_simp
             · go_simp
             · go_simp
             · (repeat (first | exact hI4 | refine IsPairs.set2 ?_ zo _ | refine IsPairs.allocd ?_ _))
             · first | omega | (simp <;> omega)
             · first | omega | (simp <;> omega)
             · (repeat (first | exact hJ4 | refine IsStrs.set2 ?_ zo _ | refine IsStrs.allocd ?_ _))
             · first | omega | (simp <;> omega)
             · first | omega | (simp <;> omega)
             · exact zb
       rename World => w10
       obtain ⟨b10, P10, Q10, a10, c10, e10, k10, S10, T10, rfl, rfl, ⟨hb10a, hb10b⟩, ⟨kq10_0, kq10_1, kq10_2⟩, hI10, ⟨hp10, hQ10⟩, hJ10, ⟨hq10, hT10⟩, hN10⟩ := hcut
       obtain ⟨hc10, hf10⟩ := bcell hN10
       have hn10 := hN10.size
       have hs10_0 : w1.heap.size < w10.heap.size := by omega
       have hs10_1 : w3.heap.size < w10.heap.size := by omega
       have kb10_0_0 : w10.cell? ⟨w1.heap.size, 0, none⟩ = some (.int .i64 p) := by go_simp
       have kb10_0_1 : w10.cell? ⟨w1.heap.size, 1, none⟩ = some (.int .i64 q) := by go_simp
       have kb10_0_2 : w10.cell? ⟨w1.heap.size, 2, none⟩ = some (.slice a2 L.length c2) := by go_simp
       have kb10_1_0 : w10.cell? ⟨w3.heap.size, 0, none⟩ = some (.int .i64 rp) := by go_simp
       have kb10_1_1 : w10.cell? ⟨w3.heap.size, 1, none⟩ = some (.int .i64 rq) := by go_simp
       have kb10_1_2 : w10.cell? ⟨w3.heap.size, 2, none⟩ = some (.slice a3 R.length c3) := by go_simp
       have HB10 := Lib.hid (HB9.out.trans (hN10.mono zl))
       have HR10_tab := Lib.hid (HR9_tab.out.below hN10 zl)
       have HR10_err := Lib.hid (HR9_err.out.below hN10 zl)
       have HR10_p := Lib.hid (HR9_p.out.below hN10 zl)
       have HR10_ss := Lib.hid (HR9_ss.out.below hN10 zl)
       have HR10_x := Lib.hid (HR9_x.out.below hN10 zl)
       have HR10_xs := Lib.hid (HR9_xs.out.below hN10 zl)
       have HR10_tt := Lib.hid (HR9_tt.out.below hN10 zl)
       have HR10_vv := Lib.hid (HR9_vv.out.below hN10 zl)
       clear hc10 hf10 hN10
       have HR10_u := Lib.hid (hI10)
       have HR10_f := Lib.hid (hJ10)
       clear hI10 hJ10
       go_wp2_with fail
       go_cut [12, 13] from 78 (fun s_ t_ wx => ∃ (b5 B5 C5 : Nat) (a5 : Option Addr) (c5 : Nat) (e5 : Option Addr) (k5 S5 T5 : Nat), s_ = .pointer (some ⟨b5, 0, none⟩) ∧ t_ = .slice e5 G.length k5 ∧ (w10.heap.size ≤ b5 ∧ b5 < wx.heap.size) ∧ (wx.cell? ⟨b5, 0, none⟩ = some (.int .i64 rp) ∧ wx.cell? ⟨b5, 1, none⟩ = some (.int .i64 rq) ∧ wx.cell? ⟨b5, 2, none⟩ = some (.slice a5 R.length c5)) ∧ IsPairs B5 C5 wx (.slice a5 R.length c5) R ∧ (w10.heap.size ≤ B5 ∧ C5 ≤ wx.heap.size) ∧ IsStrs S5 T5 wx (.slice e5 G.length k5) G.length (txtAt G) ∧ (w10.heap.size ≤ S5 ∧ T5 ≤ wx.heap.size) ∧ Below w10.heap.size w10 wx)
       case first =>
         go_region_held3 (fun W_ => W_.cell? ⟨b10, 0, none⟩ = some (.int .i64 up) ∧ W_.cell? ⟨b10, 1, none⟩ = some (.int .i64 uq) ∧ W_.cell? ⟨b10, 2, none⟩ = some (.slice a10 U.length c10))
           ((go_split_ands; refine ⟨?_, ?_, ?_⟩ <;> (repeat (first | with_reducible assumption | with_reducible refine cell_alloc_is _ ?_ | with_reducible refine cell_drew_is ?_ | with_reducible refine cell_set_is ?_ ?_ | omega)); done))
           ((first | (go_at_call 25; refine (HT2.out _ _ _ _ _ _ _ _ (HR10_u.out.below (show Below w10.heap.size w10 _ by exact zb) zO) (HR10_vv.out.below (show Below w10.heap.size w10 _ by exact zb) zO) (HR10_tab.out.below (show Below w10.heap.size w10 _ by exact zb) zl) (HR10_err.out.below (show Below w10.heap.size w10 _ by exact zb) zl)).mono ?_; rintro e w_4 ⟨a4, c4, e4, k4, P4, Q4, S4, T4, rfl, hI4, hJ4, ⟨hp4, hq4, hd4⟩, hb_4⟩; obtain ⟨hc_4, hf_4⟩ := bcell hb_4; have hz_4 := hb_4.size; (try simp at hz_4); have kx0 := (hb_4.cell (p := ⟨b10, 0, none⟩) zo).trans (show _ = some (.int .i64 up) by (repeat (first | with_reducible assumption | with_reducible refine cell_alloc_is _ ?_ | with_reducible refine cell_drew_is ?_ | with_reducible refine cell_set_is ?_ ?_ | omega))); have kx1 := (hb_4.cell (p := ⟨b10, 1, none⟩) zo).trans (show _ = some (.int .i64 uq) by (repeat (first | with_reducible assumption | with_reducible refine cell_alloc_is _ ?_ | with_reducible refine cell_drew_is ?_ | with_reducible refine cell_set_is ?_ ?_ | omega))); have kx2 := (hb_4.cell (p := ⟨b10, 2, none⟩) zo).trans (show _ = some (.slice a10 U.length c10) by (repeat (first | with_reducible assumption | with_reducible refine cell_alloc_is _ ?_ | with_reducible refine cell_drew_is ?_ | with_reducible refine cell_set_is ?_ ?_ | omega))); have hQ4 : Q4 ≤ w_4.heap.size := (by obtain ⟨_, _, _, h, _⟩ := id hI4; exact h); have hT4 : T4 ≤ w_4.heap.size := (by obtain ⟨_, _, _, h, _⟩ := id hJ4; exact h); (try simp at hp4); (try simp at hq4); (try have hq_4_w10 : w10.heap.size < w_4.heap.size := by omega)) | fail))
         all_goals (go_wp2_with fail; go_meet)
         all_goals
           case rel =>
             refine ⟨_, P4, Q4, a4, c4, e4, k4, S4, T4, rfl, rfl, ⟨?_, ?_⟩, ⟨?_, ?_, ?_⟩, ?_, ⟨?_, ?_⟩, ?_, ⟨?_, ?_⟩, ?_⟩
             · first | omega | (simp <;> omega)
             · first | omega | (simp <;> omega)
             · go_simp
             · go_simp
             · go_simp
             · (repeat (first | exact hI4 | refine IsPairs.set2 ?_ zo _ | refine IsPairs.allocd ?_ _))
             · first | omega | (simp <;> omega)
             · first | omega | (simp <;> omega)
             · (repeat (first | exact hJ4 | refine IsStrs.set2 ?_ zo _ | refine IsStrs.allocd ?_ _))
             · first | omega | (simp <;> omega)
             · first | omega | (simp <;> omega)
             · exact zb
       rename World => w11
       obtain ⟨b12, P12, Q12, a12, c12, e12, k12, S12, T12, rfl, rfl, ⟨hb12a, hb12b⟩, ⟨kq12_0, kq12_1, kq12_2⟩, hI12, ⟨hp12, hQ12⟩, hJ12, ⟨hq12, hT12⟩, hN11⟩ := hcut
       obtain ⟨hc11, hf11⟩ := bcell hN11
       have hn11 := hN11.size
       have hs11_0 : w1.heap.size < w11.heap.size := by omega
       have hs11_1 : w3.heap.size < w11.heap.size := by omega
       have hs11_2 : b10 < w11.heap.size := by omega
       have kb11_0_0 : w11.cell? ⟨w1.heap.size, 0, none⟩ = some (.int .i64 p) := by go_simp
       have kb11_0_1 : w11.cell? ⟨w1.heap.size, 1, none⟩ = some (.int .i64 q) := by go_simp
       have kb11_0_2 : w11.cell? ⟨w1.heap.size, 2, none⟩ = some (.slice a2 L.length c2) := by go_simp
       have kb11_1_0 : w11.cell? ⟨w3.heap.size, 0, none⟩ = some (.int .i64 rp) := by go_simp
       have kb11_1_1 : w11.cell? ⟨w3.heap.size, 1, none⟩ = some (.int .i64 rq) := by go_simp
       have kb11_1_2 : w11.cell? ⟨w3.heap.size, 2, none⟩ = some (.slice a3 R.length c3) := by go_simp
       have kb11_2_0 : w11.cell? ⟨b10, 0, none⟩ = some (.int .i64 up) := by go_simp
       have kb11_2_1 : w11.cell? ⟨b10, 1, none⟩ = some (.int .i64 uq) := by go_simp
       have kb11_2_2 : w11.cell? ⟨b10, 2, none⟩ = some (.slice a10 U.length c10) := by go_simp
       have HB11 := Lib.hid (HB10.out.trans (hN11.mono zl))
       have HR11_tab := Lib.hid (HR10_tab.out.below hN11 zl)
       have HR11_err := Lib.hid (HR10_err.out.below hN11 zl)
       have HR11_p := Lib.hid (HR10_p.out.below hN11 zl)
       have HR11_ss := Lib.hid (HR10_ss.out.below hN11 zl)
       have HR11_x := Lib.hid (HR10_x.out.below hN11 zl)
       have HR11_xs := Lib.hid (HR10_xs.out.below hN11 zl)
       have HR11_tt := Lib.hid (HR10_tt.out.below hN11 zl)
       have HR11_vv := Lib.hid (HR10_vv.out.below hN11 zl)
       have HR11_u := Lib.hid (HR10_u.out.below hN11 zl)
       have HR11_f := Lib.hid (HR10_f.out.below hN11 zl)
       clear hc11 hf11 hN11
       have HR11_v := Lib.hid (hI12)
       have HR11_g := Lib.hid (hJ12)
       clear hI12 hJ12
       have HXL := Lib.hid (HR11_xs.out)
       go_wp2_with fail
       go_loop [14] (fun x => ∃ k : Nat, k ≤ A.length ∧ x = .int .i64 k) (fun x => A.length - (intOf x).toNat)
       case atStart => exact ⟨0, Nat.zero_le _, rfl⟩
       case round =>
         obtain ⟨k, hk, rfl⟩ := hrel
         by_cases hlt : k < A.length
         · obtain ⟨_, _, hve, _, hks⟩ := id HXL.out
           obtain ⟨rfl, rfl⟩ := (by simpa using hve : e3 = _ ∧ k3 = _)
           rcases hks with hks | ⟨g, off, rfl, _, hg2, hc, _⟩
           · omega
           have x0 := hc k hlt
           obtain ⟨s, hs⟩ : ∃ s, txtAt A k = s := ⟨_, rfl⟩
           have hne := HNE.out k hlt
           rw [hs] at x0 hne
           have hn1 : ¬ s.toList = [] := by rw [bl_toList]; intro e; apply hne; rw [← bl_size, e]; rfl
           have hn2 : s.toList.isEmpty = false := by rw [List.isEmpty_eq_false_iff]; exact hn1
           have hn3 : (s.toList == []) = false := by rw [beq_eq_false_iff_ne]; exact hn1
           have hki : (k : Int) < (A.length : Int) := by omega
           have hk0 : (0 : Int) ≤ (k : Int) := by omega
           clear hc hs hne
           go_wp2
           go_round
           case rel => exact ⟨k + 1, by omega, congrArg (Value.int .i64) zO⟩
           case measure => simp [intOf]; omega
         · obtain rfl : k = A.length := by omega
           have hki : ¬ ((A.length : Int) < (A.length : Int)) := by omega
           clear HXL HNE hlt
           go_wp2_with fail
           refine (HW.out _ _ _ _ _ HR11_x.out HR11_tab.out HR11_err.out).mono ?_
           rintro e w12 ⟨a6, c6, rfl, hI6, hb12⟩
           obtain ⟨hc12, hf12⟩ := bcell hb12
           have hz12 := hb12.size
           try simp at hz12
           have hN12 : Below w11.heap.size w11 w12 := by
             refine Below.trans ?_ (hb12.mono zo)
             exact zb
           have hn12 := hN12.size
           have hs12_0 : w3.heap.size < w12.heap.size := by omega
           have hs12_1 : b12 < w12.heap.size := by omega
           have kb12_0_0 : w12.cell? ⟨w3.heap.size, 0, none⟩ = some (.int .i64 rp) := by go_simp
           have kb12_0_1 : w12.cell? ⟨w3.heap.size, 1, none⟩ = some (.int .i64 rq) := by go_simp
           have kb12_0_2 : w12.cell? ⟨w3.heap.size, 2, none⟩ = some (.slice a3 R.length c3) := by go_simp
           have kb12_1_0 : w12.cell? ⟨b12, 0, none⟩ = some (.int .i64 rp) := by go_simp
           have kb12_1_1 : w12.cell? ⟨b12, 1, none⟩ = some (.int .i64 rq) := by go_simp
           have kb12_1_2 : w12.cell? ⟨b12, 2, none⟩ = some (.slice a12 R.length c12) := by go_simp
           have HB12 := Lib.hid (HB11.out.trans (hN12.mono zl))
           have HR12_tab := Lib.hid (HR11_tab.out.below hN12 zl)
           have HR12_err := Lib.hid (HR11_err.out.below hN12 zl)
           have HR12_x := Lib.hid (HR11_x.out.below hN12 zl)
           have HR12_xs := Lib.hid (HR11_xs.out.below hN12 zl)
           have HR12_f := Lib.hid (HR11_f.out.below hN12 zl)
           have HR12_v := Lib.hid (HR11_v.out.below hN12 zl)
           have HR12_g := Lib.hid (HR11_g.out.below hN12 zl)
           clear hc12 hf12 hb12 hN12 hz12
           clear hI6
           go_wp2_with fail
           refine calls_namedD ?_
           intro w13 hw13
           have hN13 : Below w12.heap.size w12 w13 := by
             rw [hw13]
             exact zb
           have hz13 : w13.heap.size = _ := congrArg (fun W : World => W.heap.size) hw13
           try simp at hz13
           have hn13 := hN13.size
           have hs13_0 : w3.heap.size < w13.heap.size := by omega
           have hs13_1 : b12 < w13.heap.size := by omega
           have kb13_0_0 : w13.cell? ⟨w3.heap.size, 0, none⟩ = some (.int .i64 rp) := by rw [hw13]; go_simp
           have kb13_0_1 : w13.cell? ⟨w3.heap.size, 1, none⟩ = some (.int .i64 rq) := by rw [hw13]; go_simp
           have kb13_0_2 : w13.cell? ⟨w3.heap.size, 2, none⟩ = some (.slice a3 R.length c3) := by rw [hw13]; go_simp
           have kb13_1_0 : w13.cell? ⟨b12, 0, none⟩ = some (.int .i64 rp) := by rw [hw13]; go_simp
           have kb13_1_1 : w13.cell? ⟨b12, 1, none⟩ = some (.int .i64 rq) := by rw [hw13]; go_simp
           have kb13_1_2 : w13.cell? ⟨b12, 2, none⟩ = some (.slice a12 R.length c12) := by rw [hw13]; go_simp
           have HB13 := Lib.hid (HB12.out.trans (hN13.mono zl))
           have HR13_tab := Lib.hid (HR12_tab.out.below hN13 zl)
           have HR13_err := Lib.hid (HR12_err.out.below hN13 zl)
           have HR13_x := Lib.hid (HR12_x.out.below hN13 zl)
           have HR13_xs := Lib.hid (HR12_xs.out.below hN13 zl)
           have HR13_f := Lib.hid (HR12_f.out.below hN13 zl)
           have HR13_v := Lib.hid (HR12_v.out.below hN13 zl)
           have HR13_g := Lib.hid (HR12_g.out.below hN13 zl)
           clear hw13 hN13 hz13
           refine (HC.out _ _ _ _ _ HR13_x.out HR13_tab.out HR13_err.out).mono ?_
           rintro e w14 ⟨a7, c7, rfl, hI7, hb14⟩
           obtain ⟨hc14, hf14⟩ := bcell hb14
           have hz14 := hb14.size
           try simp at hz14
           have hN14 : Below w13.heap.size w13 w14 := by
             refine Below.trans ?_ (hb14.mono zo)
             exact zb
           have hn14 := hN14.size
           have hs14_0 : w3.heap.size < w14.heap.size := by omega
           have hs14_1 : b12 < w14.heap.size := by omega
           have kb14_0_0 : w14.cell? ⟨w3.heap.size, 0, none⟩ = some (.int .i64 rp) := by go_simp
           have kb14_0_1 : w14.cell? ⟨w3.heap.size, 1, none⟩ = some (.int .i64 rq) := by go_simp
           have kb14_0_2 : w14.cell? ⟨w3.heap.size, 2, none⟩ = some (.slice a3 R.length c3) := by go_simp
           have kb14_1_0 : w14.cell? ⟨b12, 0, none⟩ = some (.int .i64 rp) := by go_simp
           have kb14_1_1 : w14.cell? ⟨b12, 1, none⟩ = some (.int .i64 rq) := by go_simp
           have kb14_1_2 : w14.cell? ⟨b12, 2, none⟩ = some (.slice a12 R.length c12) := by go_simp
           have HB14 := Lib.hid (HB13.out.trans (hN14.mono zl))
           have HR14_tab := Lib.hid (HR13_tab.out.below hN14 zl)
           have HR14_err := Lib.hid (HR13_err.out.below hN14 zl)
           have HR14_x := Lib.hid (HR13_x.out.below hN14 zl)
           have HR14_xs := Lib.hid (HR13_xs.out.below hN14 zl)
           have HR14_f := Lib.hid (HR13_f.out.below hN14 zl)
           have HR14_v := Lib.hid (HR13_v.out.below hN14 zl)
           have HR14_g := Lib.hid (HR13_g.out.below hN14 zl)
           clear hc14 hf14 hb14 hN14 hz14
           clear hI7
           go_wp2_with fail
           refine calls_namedD ?_
           intro w15 hw15
           have hN15 : Below w14.heap.size w14 w15 := by
             rw [hw15]
             exact zb
           have hz15 : w15.heap.size = _ := congrArg (fun W : World => W.heap.size) hw15
           try simp at hz15
           have hn15 := hN15.size
           have hs15_0 : w3.heap.size < w15.heap.size := by omega
           have hs15_1 : b12 < w15.heap.size := by omega
           have kb15_0_0 : w15.cell? ⟨w3.heap.size, 0, none⟩ = some (.int .i64 rp) := by rw [hw15]; go_simp
           have kb15_0_1 : w15.cell? ⟨w3.heap.size, 1, none⟩ = some (.int .i64 rq) := by rw [hw15]; go_simp
           have kb15_0_2 : w15.cell? ⟨w3.heap.size, 2, none⟩ = some (.slice a3 R.length c3) := by rw [hw15]; go_simp
           have kb15_1_0 : w15.cell? ⟨b12, 0, none⟩ = some (.int .i64 rp) := by rw [hw15]; go_simp
           have kb15_1_1 : w15.cell? ⟨b12, 1, none⟩ = some (.int .i64 rq) := by rw [hw15]; go_simp
           have kb15_1_2 : w15.cell? ⟨b12, 2, none⟩ = some (.slice a12 R.length c12) := by rw [hw15]; go_simp
           have HB15 := Lib.hid (HB14.out.trans (hN15.mono zl))
           have HR15_tab := Lib.hid (HR14_tab.out.below hN15 zl)
           have HR15_err := Lib.hid (HR14_err.out.below hN15 zl)
           have HR15_x := Lib.hid (HR14_x.out.below hN15 zl)
           have HR15_xs := Lib.hid (HR14_xs.out.below hN15 zl)
           have HR15_f := Lib.hid (HR14_f.out.below hN15 zl)
           have HR15_v := Lib.hid (HR14_v.out.below hN15 zl)
           have HR15_g := Lib.hid (HR14_g.out.below hN15 zl)
           clear hw15 hN15 hz15
           refine (sameDesk_yes _ _ _ _ rp rq _ _ R _ HR15_v.out HR15_x.out hRn).mono ?_
           rintro e w16 ⟨rfl, hb16⟩
           obtain ⟨hc16, hf16⟩ := bcell hb16
           have hz16 := hb16.size
           try simp at hz16
           have hN16 : Below w15.heap.size w15 w16 := by
             refine Below.trans ?_ (hb16.mono zo)
             exact zb
           have hn16 := hN16.size
           have hs16_0 : w3.heap.size < w16.heap.size := by omega
           have hs16_1 : b12 < w16.heap.size := by omega
           have kb16_0_0 : w16.cell? ⟨w3.heap.size, 0, none⟩ = some (.int .i64 rp) := by go_simp
           have kb16_0_1 : w16.cell? ⟨w3.heap.size, 1, none⟩ = some (.int .i64 rq) := by go_simp
           have kb16_0_2 : w16.cell? ⟨w3.heap.size, 2, none⟩ = some (.slice a3 R.length c3) := by go_simp
           have kb16_1_0 : w16.cell? ⟨b12, 0, none⟩ = some (.int .i64 rp) := by go_simp
           have kb16_1_1 : w16.cell? ⟨b12, 1, none⟩ = some (.int .i64 rq) := by go_simp
           have kb16_1_2 : w16.cell? ⟨b12, 2, none⟩ = some (.slice a12 R.length c12) := by go_simp
           have HB16 := Lib.hid (HB15.out.trans (hN16.mono zl))
           have HR16_tab := Lib.hid (HR15_tab.out.below hN16 zl)
           have HR16_err := Lib.hid (HR15_err.out.below hN16 zl)
           have HR16_x := Lib.hid (HR15_x.out.below hN16 zl)
           have HR16_xs := Lib.hid (HR15_xs.out.below hN16 zl)
           have HR16_f := Lib.hid (HR15_f.out.below hN16 zl)
           have HR16_v := Lib.hid (HR15_v.out.below hN16 zl)
           have HR16_g := Lib.hid (HR15_g.out.below hN16 zl)
           clear hc16 hf16 hb16 hN16 hz16
           have hm0 : (w16.alloc (.cells #[] 9)).ownsRow w16.heap.size 9 1 (.slice (some ⟨w16.heap.size, 0, none⟩) 0 0) 0 [] := World.ownsRow_made w16 #[] 0 (Nat.le_refl _) (by unfold maxLen; omega) rfl
           go_wp2_with (at_builtin; refine wpList_append_texts _ (by first | rfl | kernel_rfl | go_simp | simp [Region.wanted, yielded]) _ _ 49 rfl w16.heap.size 9 i0 (.string ⟨#[]⟩) 16 Tryz.underlying49 hi0 hz0 hzs1 hz2' rfl (.slice (some ⟨w16.heap.size, 0, none⟩) 0 0) 0 [] rfl hm0 _ _ _ F rfl (HR16_f.out.allocd _) F.length zO (byteC F) (by simp) (by unfold maxLen; omega) zO (by simp) ?_)
           intro a8 c8 w8 hown8 hgrow8
           have hz8 := hgrow8.size
           simp at hz8
           have hu8 : Below w16.heap.size w16 w8 := ((Below.refl _ _).alloc (Nat.le_refl _) _).grown hgrow8 (by simp) (fun g e => by simp [Value.ownBlock] at e; omega)
           have HO8 := Lib.hid hown8
           have HG8 := Lib.hid (HR16_g.out.below hu8 zl)
           have HX8 := Lib.hid (HR16_xs.out.below hu8 zl)
           have HU8 := Lib.hid hu8
           clear hown8 hgrow8 hm0 hu8
           go_wp2_with (at_builtin; refine wpList_append_texts _ (by first | rfl | kernel_rfl | go_simp | simp [Region.wanted, yielded]) _ _ 49 rfl w16.heap.size 9 i0 (.string ⟨#[]⟩) 16 Tryz.underlying49 hi0 hz0 hzs1 hz2' rfl (.slice a8 F.length c8) F.length (byteC F) rfl HO8.out _ _ _ G rfl HG8.out (F.length + G.length) rfl (byteC (F ++ G)) (byteC_append _ _) (by unfold maxLen; omega) zO zO ?_)
           intro a9 c9 w9 hown9 hgrow9
           have hz9 := hgrow9.size
           have hu9 : Below w16.heap.size w16 w9 := HU8.out.grown hgrow9 zO (fun g e => ((HO8.out.lt g e).1))
           have hS9 := strs_own hown9 (by simp)
           have HS9 := Lib.hid hS9
           have HU9 := Lib.hid hu9
           have HX9 := Lib.hid (HR16_xs.out.below hu9 zl)
           clear hown9 hgrow9 hu9 hS9 HX8 HG8 HU8 HO8
           have hs9 := HS9.out
           rw [HAF.out] at hs9
           have HS9' := Lib.hid hs9
           clear hs9 HS9
           go_wp2_with fail
           refine (sameTexts_same _ _ _ _ A.length _ _ (txtAt A) _ HS9'.out HX9.out zO).mono ?_
           rintro e w10 ⟨rfl, hb10⟩
           have hAX := HAX.out
           have HBE := Lib.hid (HB16.out.trans ((HU9.out.mono zO).trans (hb10.mono zO)))
           clear hb10
           go_wp2
           go_ret
           exact ⟨rfl, HBE.out⟩
   · have h0 : sayR ⟨(p, q), L⟩ X = (⟨(0, 0), []⟩, []) := sayR_no (fun e => hyes ⟨hdk ▸ e.1, e.2⟩)
     rw [hres] at h0
     have e1 : A = [] := congrArg Prod.snd h0
     have e2 : (⟨(rp, rq), R⟩ : DeskN) = ⟨(0, 0), []⟩ := congrArg Prod.fst h0
     have hZ : ∀ (w : World) (a : Option Addr) (c : Nat), Calls Tryz.prog 22 #[.agg #[.int .i64 rp, .int .i64 rq, .slice a R.length c]] w fun e w' => e = .returned (.bool true) ∧ Below w.heap.size w w' := by
       injection e2 with e3 e4
       injection e3 with e5 e6
       rw [e4, e5, e6]
       exact fun w a c => noDesk_zero w a c
     have HZ := Lib.hid hZ
     have hA0 : A.length = 0 := by rw [e1]; rfl
     clear hZ e1 e2 h0 hres
     cases dk with
     | false =>
       clear hdk hyes
       go_wp2_with fail
       refine (specOk_is _ _ p q L _ _ HR8_p.out hn false HD.out).mono ?_
       rintro e w9 ⟨rfl, hb9⟩
       obtain ⟨hc9, hf9⟩ := bcell hb9
       have hz9 := hb9.size
       try simp at hz9
       have hN9 : Below w8.heap.size w8 w9 := by
         refine Below.trans ?_ (hb9.mono zo)
         exact zb
       have hn9 := hN9.size
       have hs9_0 : w1.heap.size < w9.heap.size := by omega
       have hs9_1 : w3.heap.size < w9.heap.size := by omega
       have kb9_0_0 : w9.cell? ⟨w1.heap.size, 0, none⟩ = some (.int .i64 p) := by go_simp
       have kb9_0_1 : w9.cell? ⟨w1.heap.size, 1, none⟩ = some (.int .i64 q) := by go_simp
       have kb9_0_2 : w9.cell? ⟨w1.heap.size, 2, none⟩ = some (.slice a2 L.length c2) := by go_simp
       have kb9_1_0 : w9.cell? ⟨w3.heap.size, 0, none⟩ = some (.int .i64 rp) := by go_simp
       have kb9_1_1 : w9.cell? ⟨w3.heap.size, 1, none⟩ = some (.int .i64 rq) := by go_simp
       have kb9_1_2 : w9.cell? ⟨w3.heap.size, 2, none⟩ = some (.slice a3 R.length c3) := by go_simp
       have HB9 := Lib.hid (HB8.out.trans (hN9.mono zl))
       have HR9_tab := Lib.hid (HR8_tab.out.below hN9 zl)
       have HR9_err := Lib.hid (HR8_err.out.below hN9 zl)
       have HR9_p := Lib.hid (HR8_p.out.below hN9 zl)
       have HR9_ss := Lib.hid (HR8_ss.out.below hN9 zl)
       have HR9_x := Lib.hid (HR8_x.out.below hN9 zl)
       have HR9_xs := Lib.hid (HR8_xs.out.below hN9 zl)
       clear hc9 hf9 hb9 hN9 hz9
       go_wp2_with fail
       refine (HZ.out _ _ _).mono ?_
       rintro e w10 ⟨rfl, hb10⟩
       obtain ⟨hc10, hf10⟩ := bcell hb10
       have hz10 := hb10.size
       try simp at hz10
       have hN10 : Below w9.heap.size w9 w10 := by
         refine Below.trans ?_ (hb10.mono zo)
         exact zb
       have hn10 := hN10.size
       have hs10_0 : w1.heap.size < w10.heap.size := by omega
       have hs10_1 : w3.heap.size < w10.heap.size := by omega
       have kb10_0_0 : w10.cell? ⟨w1.heap.size, 0, none⟩ = some (.int .i64 p) := by go_simp
       have kb10_0_1 : w10.cell? ⟨w1.heap.size, 1, none⟩ = some (.int .i64 q) := by go_simp
       have kb10_0_2 : w10.cell? ⟨w1.heap.size, 2, none⟩ = some (.slice a2 L.length c2) := by go_simp
       have kb10_1_0 : w10.cell? ⟨w3.heap.size, 0, none⟩ = some (.int .i64 rp) := by go_simp
       have kb10_1_1 : w10.cell? ⟨w3.heap.size, 1, none⟩ = some (.int .i64 rq) := by go_simp
       have kb10_1_2 : w10.cell? ⟨w3.heap.size, 2, none⟩ = some (.slice a3 R.length c3) := by go_simp
       have HB10 := Lib.hid (HB9.out.trans (hN10.mono zl))
       have HR10_tab := Lib.hid (HR9_tab.out.below hN10 zl)
       have HR10_err := Lib.hid (HR9_err.out.below hN10 zl)
       have HR10_p := Lib.hid (HR9_p.out.below hN10 zl)
       have HR10_ss := Lib.hid (HR9_ss.out.below hN10 zl)
       have HR10_x := Lib.hid (HR9_x.out.below hN10 zl)
       have HR10_xs := Lib.hid (HR9_xs.out.below hN10 zl)
       clear hc10 hf10 hb10 hN10 hz10
       go_wp2_with fail
       refine (alive_any _).mono ?_
       rintro e w11 ⟨rfl, hb11⟩
       obtain ⟨hc11, hf11⟩ := bcell hb11
       have hz11 := hb11.size
       try simp at hz11
       have hN11 : Below w10.heap.size w10 w11 := by
         refine Below.trans ?_ (hb11.mono zo)
         exact zb
       have hn11 := hN11.size
       have hs11_0 : w1.heap.size < w11.heap.size := by omega
       have hs11_1 : w3.heap.size < w11.heap.size := by omega
       have kb11_0_0 : w11.cell? ⟨w1.heap.size, 0, none⟩ = some (.int .i64 p) := by go_simp
       have kb11_0_1 : w11.cell? ⟨w1.heap.size, 1, none⟩ = some (.int .i64 q) := by go_simp
       have kb11_0_2 : w11.cell? ⟨w1.heap.size, 2, none⟩ = some (.slice a2 L.length c2) := by go_simp
       have kb11_1_0 : w11.cell? ⟨w3.heap.size, 0, none⟩ = some (.int .i64 rp) := by go_simp
       have kb11_1_1 : w11.cell? ⟨w3.heap.size, 1, none⟩ = some (.int .i64 rq) := by go_simp
       have kb11_1_2 : w11.cell? ⟨w3.heap.size, 2, none⟩ = some (.slice a3 R.length c3) := by go_simp
       have HB11 := Lib.hid (HB10.out.trans (hN11.mono zl))
       have HR11_tab := Lib.hid (HR10_tab.out.below hN11 zl)
       have HR11_err := Lib.hid (HR10_err.out.below hN11 zl)
       have HR11_p := Lib.hid (HR10_p.out.below hN11 zl)
       have HR11_ss := Lib.hid (HR10_ss.out.below hN11 zl)
       have HR11_x := Lib.hid (HR10_x.out.below hN11 zl)
       have HR11_xs := Lib.hid (HR10_xs.out.below hN11 zl)
       clear hc11 hf11 hb11 hN11 hz11
       go_wp2
       go_ret
       exact ⟨rfl, HB11.out⟩
     | true =>
       have h40n : 40 < X.length := Nat.lt_of_not_le (fun e => hyes ⟨rfl, e⟩)
       have h40 : ((40 : Int) < (X.length : Int)) := by omega
       clear hdk hyes
       go_wp2_with fail
       refine (specOk_is _ _ p q L _ _ HR8_p.out hn true HD.out).mono ?_
       rintro e w9 ⟨rfl, hb9⟩
       obtain ⟨hc9, hf9⟩ := bcell hb9
       have hz9 := hb9.size
       try simp at hz9
       have hN9 : Below w8.heap.size w8 w9 := by
         refine Below.trans ?_ (hb9.mono zo)
         exact zb
       have hn9 := hN9.size
       have hs9_0 : w1.heap.size < w9.heap.size := by omega
       have hs9_1 : w3.heap.size < w9.heap.size := by omega
       have kb9_0_0 : w9.cell? ⟨w1.heap.size, 0, none⟩ = some (.int .i64 p) := by go_simp
       have kb9_0_1 : w9.cell? ⟨w1.heap.size, 1, none⟩ = some (.int .i64 q) := by go_simp
       have kb9_0_2 : w9.cell? ⟨w1.heap.size, 2, none⟩ = some (.slice a2 L.length c2) := by go_simp
       have kb9_1_0 : w9.cell? ⟨w3.heap.size, 0, none⟩ = some (.int .i64 rp) := by go_simp
       have kb9_1_1 : w9.cell? ⟨w3.heap.size, 1, none⟩ = some (.int .i64 rq) := by go_simp
       have kb9_1_2 : w9.cell? ⟨w3.heap.size, 2, none⟩ = some (.slice a3 R.length c3) := by go_simp
       have HB9 := Lib.hid (HB8.out.trans (hN9.mono zl))
       have HR9_tab := Lib.hid (HR8_tab.out.below hN9 zl)
       have HR9_err := Lib.hid (HR8_err.out.below hN9 zl)
       have HR9_p := Lib.hid (HR8_p.out.below hN9 zl)
       have HR9_ss := Lib.hid (HR8_ss.out.below hN9 zl)
       have HR9_x := Lib.hid (HR8_x.out.below hN9 zl)
       have HR9_xs := Lib.hid (HR8_xs.out.below hN9 zl)
       clear hc9 hf9 hb9 hN9 hz9
       go_wp2_with fail
       refine (HZ.out _ _ _).mono ?_
       rintro e w10 ⟨rfl, hb10⟩
       obtain ⟨hc10, hf10⟩ := bcell hb10
       have hz10 := hb10.size
       try simp at hz10
       have hN10 : Below w9.heap.size w9 w10 := by
         refine Below.trans ?_ (hb10.mono zo)
         exact zb
       have hn10 := hN10.size
       have hs10_0 : w1.heap.size < w10.heap.size := by omega
       have hs10_1 : w3.heap.size < w10.heap.size := by omega
       have kb10_0_0 : w10.cell? ⟨w1.heap.size, 0, none⟩ = some (.int .i64 p) := by go_simp
       have kb10_0_1 : w10.cell? ⟨w1.heap.size, 1, none⟩ = some (.int .i64 q) := by go_simp
       have kb10_0_2 : w10.cell? ⟨w1.heap.size, 2, none⟩ = some (.slice a2 L.length c2) := by go_simp
       have kb10_1_0 : w10.cell? ⟨w3.heap.size, 0, none⟩ = some (.int .i64 rp) := by go_simp
       have kb10_1_1 : w10.cell? ⟨w3.heap.size, 1, none⟩ = some (.int .i64 rq) := by go_simp
       have kb10_1_2 : w10.cell? ⟨w3.heap.size, 2, none⟩ = some (.slice a3 R.length c3) := by go_simp
       have HB10 := Lib.hid (HB9.out.trans (hN10.mono zl))
       have HR10_tab := Lib.hid (HR9_tab.out.below hN10 zl)
       have HR10_err := Lib.hid (HR9_err.out.below hN10 zl)
       have HR10_p := Lib.hid (HR9_p.out.below hN10 zl)
       have HR10_ss := Lib.hid (HR9_ss.out.below hN10 zl)
       have HR10_x := Lib.hid (HR9_x.out.below hN10 zl)
       have HR10_xs := Lib.hid (HR9_xs.out.below hN10 zl)
       clear hc10 hf10 hb10 hN10 hz10
       go_wp2_with fail
       refine (alive_any _).mono ?_
       rintro e w11 ⟨rfl, hb11⟩
       obtain ⟨hc11, hf11⟩ := bcell hb11
       have hz11 := hb11.size
       try simp at hz11
       have hN11 : Below w10.heap.size w10 w11 := by
         refine Below.trans ?_ (hb11.mono zo)
         exact zb
       have hn11 := hN11.size
       have hs11_0 : w1.heap.size < w11.heap.size := by omega
       have hs11_1 : w3.heap.size < w11.heap.size := by omega
       have kb11_0_0 : w11.cell? ⟨w1.heap.size, 0, none⟩ = some (.int .i64 p) := by go_simp
       have kb11_0_1 : w11.cell? ⟨w1.heap.size, 1, none⟩ = some (.int .i64 q) := by go_simp
       have kb11_0_2 : w11.cell? ⟨w1.heap.size, 2, none⟩ = some (.slice a2 L.length c2) := by go_simp
       have kb11_1_0 : w11.cell? ⟨w3.heap.size, 0, none⟩ = some (.int .i64 rp) := by go_simp
       have kb11_1_1 : w11.cell? ⟨w3.heap.size, 1, none⟩ = some (.int .i64 rq) := by go_simp
       have kb11_1_2 : w11.cell? ⟨w3.heap.size, 2, none⟩ = some (.slice a3 R.length c3) := by go_simp
       have HB11 := Lib.hid (HB10.out.trans (hN11.mono zl))
       have HR11_tab := Lib.hid (HR10_tab.out.below hN11 zl)
       have HR11_err := Lib.hid (HR10_err.out.below hN11 zl)
       have HR11_p := Lib.hid (HR10_p.out.below hN11 zl)
       have HR11_ss := Lib.hid (HR10_ss.out.below hN11 zl)
       have HR11_x := Lib.hid (HR10_x.out.below hN11 zl)
       have HR11_xs := Lib.hid (HR10_xs.out.below hN11 zl)
       clear hc11 hf11 hb11 hN11 hz11
       go_wp2
       go_ret
       exact ⟨rfl, HB11.out⟩
end
end Go.Proofs.YtblphilcmfabkaaGreatDoor
