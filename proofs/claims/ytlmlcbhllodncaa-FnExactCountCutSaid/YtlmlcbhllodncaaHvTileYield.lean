/- Contracts that the statement's proof stands on. -/
import Derived.Test.YtlmlcbhllodncaaAll0b
import Derived.Test.YtlmlcbhllodncaaHvTileParts
import Derived.Test.YtlmlcbhllodncaaHvTileSpecC

namespace Go.Proofs.Ytlmlcbhllodncaa
open Go.RowKit Go.Shelf
attribute [local go_sem] Oper.semAt_some
theorem wide_fn11 (k : FuncId) : Fence.wide.fn k = True := rfl
attribute [local go_sem] wide_fn11
/-- The letters, dominoes' first. -/
def lets (a b : Nat) : List UInt8 := (List.range b).map domB ++ (List.range a).map sqB
theorem lets_len (a b : Nat) : (lets a b).length = b + a := by simp [lets]
def restW (a b c : Nat) (x : UInt8) : List (List UInt8) := if underV x ≤ c then (wayN a b (c - underV x)).map (x :: ·) else []
/-- The ways that begin with one of the first i letters. -/
def wayP (a b c i : Nat) : List (List UInt8) := ((lets a b).take i).flatMap (restW a b c)
theorem under_dom : ∀ k, k < 3 → underV (domB k) = 2 := by decide
theorem under_sq : ∀ k, k < 3 → underV (sqB k) = 1 := by decide
theorem flat_same {α β : Type} {f g : α → List β} : ∀ {L : List α}, (∀ x ∈ L, f x = g x) → L.flatMap f = L.flatMap g
  | [], _ => rfl
  | x :: L, h => by rw [List.flatMap_cons, List.flatMap_cons, h x (by simp), flat_same (L := L) fun y hy => h y (by simp [hy])]
theorem flat_none {α β : Type} {f : α → List β} : ∀ {L : List α}, (∀ x ∈ L, f x = []) → L.flatMap f = []
  | [], _ => rfl
  | x :: L, h => by rw [List.flatMap_cons, h x (by simp), flat_none (L := L) fun y hy => h y (by simp [hy])]; rfl
theorem wayN_lets {a b : Nat} (ha : a ≤ 3) (hb : b ≤ 3) : ∀ c, 1 ≤ c → wayN a b c = (lets a b).flatMap (restW a b c)
  | 0, h => by omega
  | 1, _ => by
    rw [lets, List.flatMap_append, List.flatMap_map, List.flatMap_map, flat_none (f := fun k => restW a b 1 (domB k)) (fun k hk => by
      have hk' := List.mem_range.1 hk
      rw [restW, under_dom k (by omega)]; rfl), List.nil_append, wayN]
    refine flat_same fun k hk => ?_
    have hk' := List.mem_range.1 hk
    rw [restW, under_sq k (by omega)]; rfl
  | n + 2, _ => by
    rw [lets, List.flatMap_append, List.flatMap_map, List.flatMap_map, wayN]
    congr 1
    · refine flat_same fun k hk => ?_
      have hk' := List.mem_range.1 hk
      rw [restW, under_dom k (by omega), if_pos (by omega)]; rfl
    · refine flat_same fun k hk => ?_
      have hk' := List.mem_range.1 hk
      rw [restW, under_sq k (by omega), if_pos (by omega)]; rfl
theorem wayP_next {a b c i : Nat} (hi : i < b + a) : wayP a b c (i + 1) = wayP a b c i ++ restW a b c ((lets a b).getD i 0) := by
  have h : i < (lets a b).length := by rw [lets_len]; exact hi
  rw [wayP, List.take_succ_eq_append_getElem h, List.flatMap_append, ← wayP]
  simp [h]
theorem wayP_all {a b c : Nat} (ha : a ≤ 3) (hb : b ≤ 3) (hc : 1 ≤ c) : wayP a b c (b + a) = wayN a b c := by
  rw [wayN_lets ha hb c hc, wayP, List.take_of_length_le (by rw [lets_len]; omega)]
theorem wayP_split {a b c : Nat} (i : Nat) : ∀ j, i + j ≤ b + a → ∃ R, wayP a b c (i + j) = wayP a b c i ++ R
  | 0, _ => ⟨[], by simp⟩
  | j + 1, h => by
    obtain ⟨R, hR⟩ := wayP_split (a := a) (b := b) (c := c) i j (by omega)
    exact ⟨R ++ restW a b c ((lets a b).getD (i + j) 0), by rw [show i + (j + 1) = i + j + 1 by omega, wayP_next (by omega), hR, List.append_assoc]⟩
/-- The q-th way that begins with letter i. -/
theorem way_at {a b c i q v : Nat} {x : UInt8} (ha : a ≤ 3) (hb : b ≤ 3) (hc : 1 ≤ c) (hi : i < b + a) (hx : (lets a b).getD i 0 = x) (hv : underV x = v) (hvc : v ≤ c) (hq : q < (wayN a b (c - v)).length) :
    (wayP a b c i).length + q < (wayN a b c).length ∧ (wayN a b c).getD ((wayP a b c i).length + q) [] = x :: (wayN a b (c - v)).getD q [] := by
  obtain ⟨R, hR⟩ := wayP_split (a := a) (b := b) (c := c) (i + 1) (b + a - (i + 1)) (by omega)
  rw [show i + 1 + (b + a - (i + 1)) = b + a by omega, wayP_all ha hb hc, wayP_next hi, hx, restW, hv, if_pos hvc] at hR
  rw [hR]
  constructor
  · simp only [List.length_append, List.length_map]; omega
  · rw [List.append_assoc, List.getD_eq_getElem?_getD, List.getElem?_append_right (by omega), Nat.add_sub_cancel_left, List.getElem?_append_left (by rw [List.length_map]; exact hq)]
    simp [hq]
theorem wayP_len_next {a b c i v : Nat} {x : UInt8} (hi : i < b + a) (hx : (lets a b).getD i 0 = x) (hv : underV x = v) (hvc : v ≤ c) : (wayP a b c (i + 1)).length = (wayP a b c i).length + (wayN a b (c - v)).length := by
  rw [wayP_next hi, hx, restW, hv, if_pos hvc]; simp
theorem wayP_len_skip {a b c i v : Nat} {x : UInt8} (hi : i < b + a) (hx : (lets a b).getD i 0 = x) (hv : underV x = v) (hvc : ¬ v ≤ c) : (wayP a b c (i + 1)).length = (wayP a b c i).length := by
  rw [wayP_next hi, hx, restW, hv, if_neg hvc]; simp
theorem lets_text : ∀ a, a < 4 → ∀ b, b < 4 → ∀ i, i < b + a → (mkB (lets a b)).extract i (i + 1) = ⟨#[(lets a b).getD i 0]⟩ := by decide +kernel
theorem lets_under : ∀ a, a < 4 → ∀ b, b < 4 → ∀ i, i < b + a → underV ((lets a b).getD i 0) = 1 ∨ underV ((lets a b).getD i 0) = 2 := by decide +kernel
theorem lets_at (a b i : Nat) (h : i < (mkB (lets a b)).size) : (mkB (lets a b))[i]'h = (lets a b).getD i 0 := by
  have h' : i < (lets a b).length := by rw [mkB_size] at h; exact h
  have e : (lets a b).getD i 0 = (lets a b)[i]'h' := by simp [h']
  rw [e]; rfl
/-- What the iterator reads: the cells, the letters. -/
def WayBoxes (B c : Nat) (t : ByteArray) (V : World) : Prop := V.cell? ⟨B, 0, none⟩ = some (.int .i64 c) ∧ V.cell? ⟨B + 1, 0, none⟩ = some (.string t)
set_option maxHeartbeats 1000000 in
theorem waysToLay_any (c : Int) (t : ByteArray) (w : World) :
    Calls Try.prog 51 #[.int .i64 c, .string t] w fun e w' =>
      e = .returned (.func (.func 62) #[] #[.pointer (some ⟨w.heap.size, 0, none⟩), .pointer (some ⟨w.heap.size + 1, 0, none⟩)]) ∧
      w' = (w.alloc (.cells #[.int .i64 c] 3)).alloc (.cells #[.string t] 9) := by
  have hmf : ∀ (fn : Fn) (first cap : Array Value) (w : World), (Instr.makeFunc fn first cap).run Try.prog w = .ok (.func fn first cap) w := fun _ _ _ _ => rfl
  go_enter Try.func51, Try.ntmps51
  go_wp2
  go_ret
  exact ⟨rfl, rfl⟩
theorem world_named {F : Fence} {n : Nat} {P : Program} {Q : Exit → Act → World → Prop} {c : Code} {a : Act} {w : World} (h : ∀ W, W = w → c.wpIn F n P Q a W) : c.wpIn F n P Q a w := h w rfl
set_option maxHeartbeats 2000000 in
theorem ways_zero (a b B : Nat) (t : ByteArray) (w : World) :
    Rounds Try.prog 62 #[.pointer (some ⟨B, 0, none⟩), .pointer (some ⟨B + 1, 0, none⟩)] (fun k => #[.string (mkB ((wayN a b 0).getD k []))]) (WayBoxes B 0 t) (wayN a b 0).length w := by
  intro l Bs J X W hW hJ hX hKp hXg hY h0
  have h1 := hJ.alloc (.cells #[.func (.yield l) #[] #[]] 48) h0
  obtain ⟨⟨c0, _⟩, hG⟩ := hKp 0 W h0
  have hB := World.block_lt_of_cell? _ _ c0
  obtain ⟨fn, tmps, assign, body, hy, hR⟩ := hY 0 _ (by simp [wayN]) h1
  dsimp only at hy
  rw [show mkB ((wayN a b 0).getD 0 []) = ⟨#[]⟩ from rfl] at hy
  refine (callsIn_wide (n := 9)).1 ?_
  refine callsIn_of_wp_marks Try.func62 rfl trivial ?_ rfl
  simp only [Try.ntmps62, List.size_toArray, List.length_cons, List.length_nil, Nat.reduceAdd, Nat.reduceSub, Array.replicate_succ, Array.replicate_zero, List.push_toArray, List.append_toArray, List.nil_append, List.cons_append]
  gi_wp2
  refine (roundIn_deep hR).mono ?_
  rintro e W3 ⟨(⟨rfl, hj3⟩ | ⟨rfl, hx3⟩), hs3⟩
  · gi_wp2
    exact ⟨_, results_none rfl _ _ _, ⟨_, rfl⟩, .inl hj3⟩
  · gi_wp2
    exact ⟨_, results_none rfl _ _ _, ⟨_, rfl⟩, .inr ⟨0, by simp [wayN], hx3⟩⟩
/-- A mark for the deferred calls of a loop. -/
def mark (D : Nat) : Deferred := { target := .collected D, args := #[] }
def fnBox (l : Nat) : Obj := .cells #[.func (.yield l) #[] #[]] 48 (0, 0)
def numBox (i : Nat) : Obj := .cells #[.int .i64 i] 3 (0, 0)
def textBox (t : ByteArray) : Obj := .cells #[.string t] 9 (0, 0)
def shut (ds : List Nat) : List (Nat × Obj) := ds.map fun D => (D, .deferred (some []))
set_option maxRecDepth 100000 in
set_option maxHeartbeats 8000000 in
theorem ways_more (a b c B : Nat) (w : World) (a3 : a ≤ 3) (b3 : b ≤ 3) (c1 : 1 ≤ c) (c8 : c ≤ 8)
    (IH : ∀ v, 1 ≤ v → v ≤ c → ∀ (B : Nat) (w : World), Rounds Try.prog 62 #[.pointer (some ⟨B, 0, none⟩), .pointer (some ⟨B + 1, 0, none⟩)] (fun k => #[.string (mkB ((wayN a b (c - v)).getD k []))]) (WayBoxes B (c - v) (mkB (lets a b))) (wayN a b (c - v)).length w) :
    Rounds Try.prog 62 #[.pointer (some ⟨B, 0, none⟩), .pointer (some ⟨B + 1, 0, none⟩)] (fun k => #[.string (mkB ((wayN a b c).getD k []))]) (WayBoxes B c (mkB (lets a b))) (wayN a b c).length w := by
  intro l Bs J X W hW hJ hX hKp hXg hY h0
  have IHh := Lib.hid IH
  have HY := Lib.hid hY
  have htx := lets_text a (by omega) b (by omega)
  have hun := lets_under a (by omega) b (by omega)
  have hat := lets_at a b
  have hsz : (mkB (lets a b)).size = b + a := by rw [mkB_size, lets_len]
  obtain ⟨t, ht⟩ : ∃ t, mkB (lets a b) = t := ⟨_, rfl⟩
  rw [ht] at htx hat hsz hKp
  have HT := Lib.hid ht
  obtain ⟨m, hm⟩ : ∃ m, b + a = m := ⟨_, rfl⟩
  rw [hm] at htx hun hsz
  have HM := Lib.hid hm
  have m6 : m ≤ 6 := by omega
  have HTX := Lib.hid htx
  have HUN := Lib.hid hun
  have HAT := Lib.hid hat
  have hyb : Apart Bs W.heap.size (fnBox l) (W.alloc (.cells #[.func (.yield l) #[] #[]] 48)) := Apart.new (hKp 0 W h0).2 _
  have h1 := hJ.alloc (.cells #[.func (.yield l) #[] #[]] 48) h0
  obtain ⟨⟨k1, k2⟩, hG⟩ := hKp 0 W h0
  have hB1 := World.block_lt_of_cell? _ _ k1
  have hB2 := World.block_lt_of_cell? _ _ k2
  have hcz : ((c : Int) == 0) = false := by simp; omega
  have hszi : (t.size : Int) = (m : Int) := by omega
  clear IH hY ht hm htx hun hat h0 hW
  refine (callsIn_wide (n := 9)).1 ?_
  refine callsIn_of_wp_marks Try.func62 rfl trivial ?_ rfl
  simp only [Try.ntmps62, List.size_toArray, List.length_cons, List.length_nil, Nat.reduceAdd, Nat.reduceSub, Array.replicate_succ, Array.replicate_zero, List.push_toArray, List.append_toArray, List.nil_append, List.cons_append]
  gi_wp2_with fail
  refine wpIn_loop_ghost_k (fun r a' V => ∃ u4 u5 u14 u15 u16 u17 u18 u19 u20 u21 u22 u23 u24 u25 u26 u38 u13 dl, (∃ (i : Nat) (ds : List Nat), i + r = m ∧ u13 = .int .i64 (i : Int) ∧ dl = ds.map mark ∧ ds.Nodup ∧ (∀ D ∈ ds, W.heap.size ≤ D) ∧ W.heap.size ≤ V.heap.size ∧ Lies Bs ((W.heap.size, fnBox l) :: shut ds) V ∧ J (wayP a b c i).length V) ∧ a' = ({ tmps := #[Value.func (Fn.yield l) #[] #[], .pointer (some ⟨B, 0, none⟩), .pointer (some ⟨B + 1, 0, none⟩), .pointer (some ⟨W.heap.size, 0, none⟩), u4, u5, undef, .int .i64 (c : Int), .bool false, undef, undef, .string t, .int .i64 (m : Int), u13, u14, u15, u16, u17, u18, u19, u20, u21, u22, u23, u24, u25, u26, undef, undef, undef, undef, undef, undef, undef, undef, undef, undef, undef, u38], defers := dl } : Act)) m ?_ ?_
  · (repeat apply Exists.intro)
    refine ⟨⟨0, [], by omega, rfl, rfl, List.nodup_nil, (fun D h => by cases h), by simp, fun x hx => ?_, h1⟩, rfl⟩
    obtain rfl : x = (W.heap.size, fnBox l) := by simpa [shut] using hx
    exact hyb
  · intro gk _ wr hinv
    obtain ⟨u4, u5, u14, u15, u16, u17, u18, u19, u20, u21, u22, u23, u24, u25, u26, u38, u13, dl, ⟨i, ds, hir, rfl, rfl, hnd, hds, hwr, hlie, hj⟩, ha⟩ := hinv
    subst ha
    try dsimp only
    intro _ _ _ _
    clear hyb h1 k1 k2 hB1 hB2 hG
    obtain ⟨⟨k1, k2⟩, hG⟩ := hKp _ wr hj
    have hB1 := World.block_lt_of_cell? _ _ k1
    have hB2 := World.block_lt_of_cell? _ _ k2
    obtain ⟨k0, hk0⟩ : ∃ k0, (wayP a b c i).length = k0 := ⟨_, rfl⟩
    rw [hk0] at hj
    have HK := Lib.hid hk0
    have HN := Lib.hid hnd
    have HD := Lib.hid hds
    have HL := Lib.hid hlie
    clear hk0 hnd hds hlie
    by_cases hlt : i < m
    · have hlt' : i < t.size := by omega
      have hli : (i : Int) < (m : Int) := by omega
      have i0 : (0 : Int) ≤ (i : Int) := by omega
      gi_wp2_with fail
      refine world_named ?_
      intro V hV
      obtain ⟨ix, hix⟩ : ∃ ix, wr.heap.size = ix := ⟨_, rfl⟩
      have hjV : J k0 V := by rw [hV]; exact hJ.alloc _ hj
      have hlV : Lies Bs ((ix, numBox i) :: (W.heap.size, fnBox l) :: shut ds) V := by
        rw [hV, ← hix]
        exact (HL.out.still hG (World.grownBy_alloc wr _ none)).cons (Apart.new hG _)
      have hVz : V.heap.size = ix + 1 := by rw [hV, ← hix]; simp
      have hixW : W.heap.size ≤ ix := by omega
      rw [hix]
      clear hV hj hwr hix k1 k2 hB1 hB2 hG HL
      obtain ⟨⟨k1, k2⟩, hG⟩ := hKp _ V hjV
      have hB1 := World.block_lt_of_cell? _ _ k1
      have hB2 := World.block_lt_of_cell? _ _ k2
      have ki : V.cell? ⟨ix, 0, none⟩ = some (.int .i64 (i : Int)) := (hlV (ix, numBox i) (by simp)).cell
      have HL := Lib.hid hlV
      have HG := Lib.hid hG
      obtain ⟨x, hx⟩ : ∃ x, (lets a b).getD i 0 = x := ⟨_, rfl⟩
      have hti : t[i]'hlt' = x := by rw [HAT.out i hlt', hx]
      obtain ⟨v, hv⟩ : ∃ v, underV x = v := ⟨_, rfl⟩
      have hv12 : v = 1 ∨ v = 2 := by have := HUN.out i hlt; rw [hx, hv] at this; exact this
      have HX := Lib.hid hx
      have HV := Lib.hid hv
      have HU := Lib.hid (show underV (t[i]'hlt') = v by rw [hti, hv])
      have U : IntKind.i64.wrap ((c : Int) - (v : Int)) = (c : Int) - (v : Int) := by rw [IntKind.wrap_i64]; omega
      clear hx hv hlV hG hti
      gi_quiet ((first | (gi_at_call 53; refine (callsIn_wide.2 (under_at (t[i]'hlt') v _ HU.out)).mono ?_; rintro e w' ⟨rfl, rfl⟩; exact ⟨rfl, _, rfl⟩) | fail))
      rename_i nq
      have hjV2 : J k0 (V.drewN nq) := own_still hJ hjV (grown_drewN V nq)
      have hlV2 : Lies Bs ((ix, numBox i) :: (W.heap.size, fnBox l) :: shut ds) (V.drewN nq) := HL.out.still HG.out (grown_drewN V nq)
      have hVz2 : (V.drewN nq).heap.size = ix + 1 := hVz
      generalize V.drewN nq = V2 at hjV2 hlV2 hVz2 ⊢
      have HZ2 := Lib.hid hVz2
      clear hjV HL HG k1 k2 hB1 hB2 ki hVz hVz2
      obtain ⟨⟨k1, k2⟩, hG⟩ := hKp _ V2 hjV2
      have hB1 := World.block_lt_of_cell? _ _ k1
      have hB2 := World.block_lt_of_cell? _ _ k2
      by_cases hvc : v ≤ c
      · have hvi : (0 : Int) ≤ (c : Int) - (v : Int) := by omega
        have hnx := wayP_len_next (a := a) (b := b) (c := c) (i := i) (by have := HM.out; omega) HX.out HV.out hvc
        have hwa := fun q hq => way_at (a := a) (b := b) (c := c) (i := i) (q := q) a3 b3 c1 (by have := HM.out; omega) HX.out HV.out hvc hq
        rw [HK.out] at hnx hwa
        have HNX := Lib.hid hnx
        have HWA := Lib.hid hwa
        have hE : (c : Int) - (v : Int) = ((c - v : Nat) : Int) := by omega
        clear hnx hwa
        have hdc : decide (((c - v : Nat) : Int) < 0) = false := by simp
        gi_wp2_with fail
        refine (callsIn_wide.2 (waysToLay_any ((c - v : Nat) : Int) t V2)).mono ?_
        rintro e w' ⟨rfl, rfl⟩
        gi_wp2_with fail
        obtain ⟨V3, hV3⟩ : ∃ V3, (V2.alloc (.cells #[.int .i64 ((c - v : Nat) : Int)] 3)).alloc (.cells #[.string t] 9) = V3 := ⟨_, rfl⟩
        have hjV3 : J k0 V3 := by rw [← hV3]; exact hJ.alloc _ (hJ.alloc _ hjV2)
        have hG2 := hG.alloc (.cells #[.int .i64 ((c - v : Nat) : Int)] 3)
        have hlV3 : Lies Bs ((V2.heap.size + 1, textBox t) :: (V2.heap.size, numBox (c - v)) :: (ix, numBox i) :: (W.heap.size, fnBox l) :: shut ds) V3 := by
          rw [← hV3]
          have h1 := (hlV2.still hG (World.grownBy_alloc V2 (.cells #[.int .i64 ((c - v : Nat) : Int)] 3) none)).cons (Apart.new hG (.cells #[.int .i64 ((c - v : Nat) : Int)] 3))
          have h2 := (h1.still hG2 (World.grownBy_alloc _ (.cells #[.string t] 9) none)).cons (Apart.new hG2 (.cells #[.string t] 9))
          rw [World.size_alloc] at h2
          exact h2
        have hVz3 : V3.heap.size = V2.heap.size + 2 := by rw [← hV3]; simp
        rw [hV3]
        have hseq := IHh.out v (by omega) hvc V2.heap.size V3
        rw [HT.out] at hseq
        obtain ⟨L, hLd⟩ : ∃ L, (V2.heap.size + 1, textBox t) :: (V2.heap.size, numBox (c - v)) :: (ix, numBox i) :: (W.heap.size, fnBox l) :: shut ds = L := ⟨_, rfl⟩
        have hLb : ∀ y ∈ L, W.heap.size ≤ y.1 ∧ y.1 < V3.heap.size := by
          intro y hy
          refine ⟨?_, (hlV3 y (by rw [hLd]; exact hy)).lt⟩
          rw [← hLd] at hy
          simp only [List.mem_cons, shut, List.mem_map] at hy
          rcases hy with rfl | rfl | rfl | rfl | ⟨D, hD, rfl⟩
          · show W.heap.size ≤ V2.heap.size + 1; have := HZ2.out; omega
          · show W.heap.size ≤ V2.heap.size; have := HZ2.out; omega
          · exact hixW
          · exact Nat.le_refl _
          · exact HD.out D hD
        rw [hLd] at hlV3
        have HLB := Lib.hid hLb
        have HLD := Lib.hid hLd
        have HZ3 := Lib.hid hVz3
        have hWV3 : W.heap.size ≤ V3.heap.size := by have := HZ2.out; omega
        clear hV3 hlV2 hjV2 hG2 hLb hLd hVz3
        refine wpIn_rangeFunc_rounds (gf := 62) (lb := #[.pointer (some ⟨V2.heap.size, 0, none⟩), .pointer (some ⟨V2.heap.size + 1, 0, none⟩)]) rfl (enters_of Try.func62 (by kernel_rfl) rfl)
          hseq (Below.refl _ _) (fun _ => rfl) Bs (fun q V => J (k0 + q) V ∧ Lies Bs L V) (fun cd q V => cd = .ret ∧ X (k0 + q) V ∧ Lies Bs L V) ?own ?ownX ?kp (fun cd q V h => hXg _ V h.2.1) ⟨hjV3, hlV3⟩
          (fun q => { tmps := #[.func (.yield l) #[] #[], .pointer (some ⟨B, 0, none⟩), .pointer (some ⟨B + 1, 0, none⟩), .pointer (some ⟨W.heap.size, 0, none⟩), .pointer (some ⟨ix, 0, none⟩), .int .i64 ((c - v : Nat) : Int), .string (mkB ((wayN a b (c - v)).getD q [])), .int .i64 (c : Int), .bool false, undef, undef, .string t, .int .i64 (m : Int), .int .i64 (i : Int), .bool true, .int .i64 (i : Int), .int .i64 (c : Int), .string t, .int .i64 (i : Int), .int .u8 (t[i]'hlt').toNat, .int .i64 (v : Int), .int .i64 ((c - v : Nat) : Int), .int .i64 ((c - v : Nat) : Int), .bool false, .int .i64 ((c - v : Nat) : Int), .string t, .func (.func 62) #[] #[.pointer (some ⟨V2.heap.size, 0, none⟩), .pointer (some ⟨V2.heap.size + 1, 0, none⟩)], .string (mkB ((wayN a b (c - v)).getD q [])), undef, undef, undef, undef, undef, undef, undef, undef, undef, undef, u38], defers := [] }) ?assign ?body ?done ?stop
        case own =>
          rintro q A V row ⟨h1, h2⟩ hg hr
          exact ⟨own_later hJ (by omega) (k0 + q) A V row h1 hg hr, h2.grown (hKp _ A h1).2 hg (fun r e => (hr r e).2) (fun y hy e => by have h3 := (hr _ e.symm).1; have h4 := (HLB.out y hy).2; omega)⟩
        case ownX =>
          rintro cd q A V row ⟨h0, h1, h2⟩ hg hr
          exact ⟨h0, own_later hX (by omega) (k0 + q) A V row h1 hg hr, h2.grown (hXg _ A h1) hg (fun r e => (hr r e).2) (fun y hy e => by have h3 := (hr _ e.symm).1; have h4 := (HLB.out y hy).2; omega)⟩
        case kp =>
          rintro q V ⟨h1, h2⟩
          exact ⟨⟨(h2 (V2.heap.size, numBox (c - v)) (by rw [← HLD.out]; simp)).cell, (h2 (V2.heap.size + 1, textBox t) (by rw [← HLD.out]; simp)).cell⟩, (hKp _ V h1).2⟩
        case assign =>
          intro l' q V K hK
          gi_wp2
          exact hK
        case body =>
          rintro l' q V hq ⟨hjq, hlq⟩
          obtain ⟨⟨_, kt⟩, hGq⟩ := hKp _ V hjq
          have ky : V.cell? ⟨W.heap.size, 0, none⟩ = some (.func (.yield l) #[] #[]) := (hlq (W.heap.size, fnBox l) (by rw [← HLD.out]; simp)).cell
          have ki : V.cell? ⟨ix, 0, none⟩ = some (.int .i64 (i : Int)) := (hlq (ix, numBox i) (by rw [← HLD.out]; simp)).cell
          have hjw := own_still hJ hjq (grown_drew V)
          obtain ⟨hw1, hw2⟩ := HWA.out q hq
          obtain ⟨fn, tmps, assign, body, hy, hR⟩ := HY.out _ _ hw1 hjw
          rw [hw2] at hy
          have hlen : ((wayN a b (c - v)).getD q []).length ≤ 8 := by
            have e : (wayN a b (c - v)).getD q [] = (wayN a b (c - v))[q] := by simp [hq]
            rw [e]
            have := (wayN_mem a3 b3 (c - v) _ (List.getElem_mem hq)).2.2
            omega
          obtain ⟨z, hz⟩ : ∃ z, (wayN a b (c - v)).getD q [] = z := ⟨_, rfl⟩
          rw [hz] at hy hlen ⊢
          obtain ⟨y, hyz⟩ : ∃ y, mkB z = y := ⟨_, rfl⟩
          have hys : y.size ≤ 8 := by rw [← hyz, mkB_size]; exact hlen
          have hcat : (⟨#[x]⟩ : ByteArray) ++ y = mkB (x :: z) := by rw [← hyz]; exact mkB_cons _ _
          rw [hyz]
          have hext : t.extract i (i + 1) = ⟨#[x]⟩ := by rw [HTX.out i hlt, HX.out]
          have hs1 : 1 + y.size ≤ 9223372036854775807 := by omega
          have hs2 : ¬ 9223372036854775807 < 1 + y.size := by omega
          have e1 : (i : Int) + 1 ≤ (t.size : Int) := by omega
          have e2 : i + 1 ≤ t.size := by omega
          have e3 : i ≤ t.size := by omega
          have e4 : (0 : Int) ≤ (i : Int) + 1 := by omega
          have e5 : (i : Int) ≤ (i : Int) + 1 := by omega
          have U1 : IntKind.i64.wrap ((i : Int) + 1) = (i : Int) + 1 := by rw [IntKind.wrap_i64]; omega
          have HR := Lib.hid hR
          have HJQ := Lib.hid hjq
          have HLQ := Lib.hid hlq
          have HGQ := Lib.hid hGq
          obtain ⟨S, hSd⟩ : ∃ S : World → Prop, (fun V' => V' = V.drew) = S := ⟨_, rfl⟩
          have g1 : ∀ iq : KeptBy S, iq.world.cell? ⟨W.heap.size, 0, none⟩ = some (.func (.yield l) #[] #[]) := by rw [← hSd]; exact fun iq => by rw [iq.ok]; exact ky
          have g2 : ∀ iq : KeptBy S, iq.world.cell? ⟨B + 1, 0, none⟩ = some (.string t) := by rw [← hSd]; exact fun iq => by rw [iq.ok]; exact kt
          have g3 : ∀ iq : KeptBy S, iq.world.cell? ⟨ix, 0, none⟩ = some (.int .i64 (i : Int)) := by rw [← hSd]; exact fun iq => by rw [iq.ok]; exact ki
          have g4 : Nonempty (KeptBy S) := ⟨⟨V.drew, by rw [← hSd]⟩⟩
          clear hR hjq hlq hGq hjw hw1 hw2 hz hyz hlen ky kt ki
          gi_wp2_with fail
          refine wpIn_region_tail_round (S := S) 8 rfl (by kernel_rfl) (by rw [← hSd]) (by kernel_rfl) (by kernel_rfl) (by kernel_rfl) (by kernel_rfl) ?_
          simp only [List.take_succ_cons, List.take_zero, List.drop_succ_cons, List.drop_zero]
          repeat (gi_big_quiet_step (fail))
          refine wpQuietIn_nil ?_
          rintro wz ⟨iz, hwz⟩
          obtain rfl : wz = V.drew := by
            have this : S wz := by rw [hwz]; exact iz.ok
            rw [← hSd] at this
            exact this
          clear hwz iz g1 g2 g3 g4 hSd
          gi_wp2
          refine (roundIn_any HR.out).mono ?_
          rintro e V4 ⟨hor, hs4⟩
          have hsp : Spares Bs V3.heap.size V V4 := (Spares.grown HGQ.out (grown_drew V)).trans (hs4.mono hWV3)
          have hl4 : Lies Bs L V4 := (HLQ.out.still HGQ.out (grown_drew V)).spared hs4 (fun y hy => (HLB.out y hy).1)
          rcases hor with ⟨rfl, hj4⟩ | ⟨rfl, hx4⟩
          · gi_wp2
            exact ⟨hsp, hj4, hl4⟩
          · gi_wp2
            exact ⟨hsp, rfl, hx4, hl4⟩
        case done =>
          rintro D V hD ⟨hjd, hld⟩ hsh
          have hDs : ∀ D' ∈ ds, D' < V3.heap.size := fun D' hD' => (HLB.out (D', .deferred (some [])) (by rw [← HLD.out]; simp only [List.mem_cons, shut, List.mem_map]; exact .inr (.inr (.inr (.inr ⟨D', hD', rfl⟩))))).2
          have HDS := Lib.hid hDs
          have HSH := Lib.hid hsh
          have HLL := Lib.hid hld
          clear hDs hsh hld
          dsimp only
          gi_wp2
          refine Handed.intro (gk - 1) ?_ ?_
          · omega
          · gi_step
            (repeat apply Exists.intro)
            refine ⟨⟨i + 1, D :: ds, by omega, congrArg (Value.int .i64) (by omega), rfl, ?_, ?_, ?_, ?_, by rw [HNX.out]; exact hjd⟩, rfl⟩
            · exact List.nodup_cons.2 ⟨fun h => by have := HDS.out D h; omega, HN.out⟩
            · intro D' hD'
              rcases List.mem_cons.1 hD' with rfl | h
              · omega
              · exact HD.out D' h
            · have := HSH.out.lt; omega
            · intro y hy
              simp only [List.mem_cons, shut, List.map_cons] at hy
              rcases hy with rfl | rfl | hy
              · exact HLL.out _ (by rw [← HLD.out]; simp)
              · exact HSH.out
              · exact HLL.out y (by rw [← HLD.out]; simp only [List.mem_cons, shut]; exact .inr (.inr (.inr (.inr hy))))
        case stop =>
          rintro D q cd V hD hq ⟨rfl, hxd, hld⟩ hsh
          have hDs : ∀ D' ∈ ds, D' < V3.heap.size := fun D' hD' => (HLB.out (D', .deferred (some [])) (by rw [← HLD.out]; simp only [List.mem_cons, shut, List.mem_map]; exact .inr (.inr (.inr (.inr ⟨D', hD', rfl⟩))))).2
          have HDS := Lib.hid hDs
          have HSH := Lib.hid hsh
          have HLL := Lib.hid hld
          clear hDs hsh hld
          dsimp only
          gi_wp2
          refine leaves_marks (fun V => J (wayN a b c).length V ∨ ∃ k, k < (wayN a b c).length ∧ X k V) (fun V h => ⟨_, results_none rfl _ _ _, ⟨_, rfl⟩, h⟩) (D :: ds) V ?_ (List.nodup_cons.2 ⟨fun h => by have := HDS.out D h; omega, HN.out⟩) (fun D' hD' => ?_) (.inr ⟨_, (HWA.out q hq).1, hxd⟩)
          · intro D' hD' V' hT hV'
            have hle : W.heap.size ≤ D' := by
              rcases List.mem_cons.1 hD' with rfl | h
              · omega
              · exact HD.out D' h
            rcases hT with h | ⟨k, hk, h⟩
            · exact .inl (hJ.putObj _ h hle hV' rfl)
            · exact .inr ⟨k, hk, hX.putObj _ h hle hV' rfl⟩
          · rcases List.mem_cons.1 hD' with rfl | h
            · exact HSH.out.1
            · exact (HLL.out (D', .deferred (some [])) (by rw [← HLD.out]; simp only [List.mem_cons, shut, List.mem_map]; exact .inr (.inr (.inr (.inr ⟨D', h, rfl⟩))))).1
      · have hvi : (c : Int) - (v : Int) < 0 := by omega
        have hnx := wayP_len_skip (a := a) (b := b) (c := c) (i := i) (by have := HM.out; omega) HX.out HV.out hvc
        rw [HK.out] at hnx
        have HNX := Lib.hid hnx
        clear hnx
        gi_wp2
        refine Handed.intro (gk - 1) ?_ ?_
        · omega
        · gi_step
          (repeat apply Exists.intro)
          exact ⟨⟨i + 1, ds, by omega, congrArg (Value.int .i64) (by omega), rfl, HN.out, HD.out, by have := HZ2.out; omega, fun y hy => hlV2 y (List.mem_cons_of_mem _ hy), by rw [HNX.out]; exact hjV2⟩, rfl⟩
    · obtain rfl : i = m := by omega
      gi_wp2
      have hall := wayP_all (a := a) (b := b) (c := c) a3 b3 c1
      rw [HM.out] at hall
      rw [hall] at HK
      refine leaves_marks (fun V => J (wayN a b c).length V ∨ ∃ k, k < (wayN a b c).length ∧ X k V) (fun V h => ⟨_, results_none rfl _ _ _, ⟨_, rfl⟩, h⟩) ds wr ?_ HN.out (fun D hD => (HL.out (D, _) (List.mem_cons_of_mem _ (List.mem_map.2 ⟨D, hD, rfl⟩))).1) (.inl (by rw [HK.out]; exact hj))
      intro D hD V hT hV
      rcases hT with h | ⟨k, hk, h⟩
      · exact .inl (hJ.putObj _ h (HD.out D hD) hV rfl)
      · exact .inr ⟨k, hk, hX.putObj _ h (HD.out D hD) hV rfl⟩
theorem ways_rounds {a b : Nat} (a3 : a ≤ 3) (b3 : b ≤ 3) : ∀ (c : Nat), c ≤ 8 → ∀ (B : Nat) (w : World), Rounds Try.prog 62 #[.pointer (some ⟨B, 0, none⟩), .pointer (some ⟨B + 1, 0, none⟩)] (fun k => #[.string (mkB ((wayN a b c).getD k []))]) (WayBoxes B c (mkB (lets a b))) (wayN a b c).length w := by
  intro c
  induction c using Nat.strongRecOn with
  | ind c ih =>
    intro c8 B w
    rcases Nat.eq_zero_or_pos c with rfl | h
    · exact ways_zero a b B _ w
    · exact ways_more a b c B w a3 b3 h c8 (fun v v1 vc B w => ih (c - v) (by omega) (by omega) B w)
end Go.Proofs.Ytlmlcbhllodncaa
