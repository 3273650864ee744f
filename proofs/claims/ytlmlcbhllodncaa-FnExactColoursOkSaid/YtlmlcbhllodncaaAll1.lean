/- Contracts and laws that the statement's proof stands on, one text behind the other. -/
import Derived.Test.YtlmlcbhllodncaaAll0b
import Derived.Test.YtlmlcbhllodncaaHvTileParts
import Derived.Test.YtlmlcbhllodncaaHvTileSpecC
import Derived.Test.YtlmlcbhllodncaaHvTileYield
import Derived.Test.YtlmlcbhllodncaaHvDrawTiles
import Derived.RangeFuncBox

namespace Go.Proofs.Ytlmlcbhllodncaa
open Go.RowKit Go.Shelf
attribute [local go_sem] Oper.semAt_some
attribute [local go_sem] wide_fn11
/-- append, and where the new slice lies, within a fence. -/
theorem wpListIn_append_lies {F : Fence} {n : Nat} {P : Program} (w : World) {ops : Array Oper} {rest : List Oper} {o : Oper} {a : Act} {Q : Exit → Act → World → Prop}
    (hg : o.guard = none) (s x : Operand) (t : TypeId) (hop : o.op = Op.call { callee := Callee.builtin Builtin.append, args := #[s, x], argTypes := #[t, t] })
    (base : Nat) (e : TypeId) (i : TypeInfo) (z : Value) (size bytes : Nat) (h1 : P.underlying t = some (.slice e)) (h2 : P.info? e = some i) (h3 : i.zero = some z) (h4 : i.size = size) (h5 : i.bytes = bytes) (h6 : z.cells.size = size) (h7 : 0 < size)
    (v : Value) (k : Nat) (xs : List Value) (hs : a.eval s = v) (hown : w.ownsRow base e size v k xs) (ad : Addr) (m c : Nat) (news : List Value) (hx : a.eval x = .slice (some ad) m c) (hn : news.length = m * size)
    (hc : ∀ j u, news[j]? = some u → w.cell? (ad.add j) = some u) (h1c : ∀ u ∈ news, u.oneCell' = true) (hm : 0 < m) (b1 : k + m ≤ maxLen) (b2 : (k + m) * bytes ≤ 140737488355328) (b3 : base ≤ w.heap.size)
    (hK : ∀ g cap w', w'.ownsRow base e size (.slice (some ⟨g, 0, none⟩) (k + m) cap) (k + m) (xs ++ news) → w.grownBy w' v.ownBlock → (v.ownBlock = some g ∨ g = w.heap.size) → wpListIn F n P ops Q rest (a.put o.dst (.slice (some ⟨g, 0, none⟩) (k + m) cap)) w') :
    wpListIn F n P ops Q (o :: rest) a w := by
  refine wpListIn_plain hg fun K hK' => ?_
  obtain ⟨g, cap, w', hrun, r1, r2, r3, _⟩ := run_append_lies (P := P) w t o.type base e i z size bytes h1 h2 h3 h4 h5 h6 h7 v k xs hown ad m c news hn hc h1c hm b1 b2 b3 _ rfl
  unfold Oper.wpIn
  refine ⟨?_, ?_⟩
  · simp [Oper.about, hop, resolve, Target.leads, Sem.run_pure]
  · rw [Oper.semAt_plain F _ _ (by rw [hop]; intro c hc'; cases hc')]
    simp [execOp, hop, resolve, invoke, builtin, hs, hx, hrun, Result.andThen]
    exact hK' _ _ (hK g cap w' r1 r2 r3)
theorem spares_appended {W w1 : World} {Bs B g n cap : Nat} {tmp : Obj} {v : Value} (hv : W.cell? ⟨Bs, 0, none⟩ = some v) (h1 : w1.cell? ⟨Bs, 0, none⟩ = some v) (hgrow : (W.alloc tmp).grownBy w1 v.ownBlock) (hat : v.ownBlock = some g ∨ g = W.heap.size + 1) :
    Spares Bs B W (w1.setCell ⟨Bs, 0, none⟩ (.slice (some ⟨g, 0, none⟩) n cap)) := by
  have hs1 := hgrow.size
  have hs2 := (grownBy_setCell' w1 Bs (.slice (some ⟨g, 0, none⟩) n cap)).size
  rw [World.size_alloc] at hs1
  refine ⟨by omega, fun b o _ ha => ?_⟩
  have hlt := ha.lt
  obtain ⟨hb, hne, hrow⟩ := ha
  have hrv := hrow v hv
  refine ⟨?_, hne, fun u hu e => ?_⟩
  · refine (Below.heap_setCell w1 ⟨Bs, 0, none⟩ _ b hne).trans ?_
    refine (hgrow.block b (by rw [World.size_alloc]; omega) (fun e => hrv e.symm)).trans ?_
    exact (Below.heap_alloc W tmp b hlt).trans hb
  · rw [World.cell?_setCell_same' _ _ _ (by rw [h1]; rfl)] at hu
    cases hu
    have e' : g = b := by simpa [Value.ownBlock] using e
    rcases hat with h | h
    · exact hrv (by rw [h, e'])
    · omega
theorem strC_next {L : List (List UInt8)} {k : Nat} (hk : k < L.length) : strC (L.take k) ++ [.string (mkB (L.getD k []))] = strC (L.take (k + 1)) := by
  have e : L.getD k [] = L[k] := by simp [hk]
  rw [List.take_succ_eq_append_getElem hk, e]
  simp only [strC, List.map_append, List.map_cons, List.map_nil]
set_option maxRecDepth 100000 in
set_option maxHeartbeats 8000000 in
theorem appendSeq_at (a b c B : Nat) (w : World) (a3 : a ≤ 3) (b3 : b ≤ 3) (c8 : c ≤ 8) (h2000 : (wayN a b c).length ≤ 2000) (hbx : WayBoxes B c (mkB (lets a b)) w) :
    Calls Try.prog 61 #[.slice none 0 0, .func (.func 62) #[] #[.pointer (some ⟨B, 0, none⟩), .pointer (some ⟨B + 1, 0, none⟩)]] w (StrsOf (wayN a b c) w) := by
  obtain ⟨i0, hi0, hzi0, hzi1, hzi2⟩ := info_parts info_str
  have hseq := ways_rounds a3 b3 c c8 B
  have hnx := fun k hk => strC_next (L := wayN a b c) (k := k) hk
  obtain ⟨L, hL⟩ : ∃ L, wayN a b c = L := ⟨_, rfl⟩
  rw [hL] at hseq hnx h2000 ⊢
  obtain ⟨g, hg⟩ : ∃ g : Nat → ByteArray, ∀ k, mkB (L.getD k []) = g k := ⟨_, fun _ => rfl⟩
  have hge : (fun k => mkB (L.getD k [])) = g := funext hg
  have hseq2 : ∀ w, Rounds Try.prog 62 #[.pointer (some ⟨B, 0, none⟩), .pointer (some ⟨B + 1, 0, none⟩)] (fun k => #[.string (g k)]) (WayBoxes B c (mkB (lets a b))) L.length w := by
    intro w; rw [← hge]; exact hseq w
  have hnx2 : ∀ k, k < L.length → strC (L.take k) ++ [.string (g k)] = strC (L.take (k + 1)) := fun k hk => by rw [← hg k]; exact hnx k hk
  obtain ⟨t, ht⟩ : ∃ t, mkB (lets a b) = t := ⟨_, rfl⟩
  rw [ht] at hseq2 hbx
  have HX := Lib.hid hbx
  clear hseq hnx hg hge hL ht hbx
  refine (callsIn_wide (n := 9)).1 ?_
  refine callsIn_of_wp_marks Try.func61 rfl trivial ?_ rfl
  simp only [Try.ntmps61, List.size_toArray, List.length_cons, List.length_nil, Nat.reduceAdd, Nat.reduceSub, Array.replicate_succ, Array.replicate_zero, List.push_toArray, List.append_toArray, List.nil_append, List.cons_append]
  gi_wp2_with fail
  refine wpIn_rangeFunc_rounds (gf := 62) (lb := #[.pointer (some ⟨B, 0, none⟩), .pointer (some ⟨B + 1, 0, none⟩)]) rfl (enters_of Try.func62 (by kernel_rfl) rfl)
    (hseq2 _) (Below.refl _ _) (fun _ => rfl) w.heap.size
    (fun k V => (∃ v, Boxed V w.heap.size 30 v ∧ V.ownsRow w.heap.size 9 1 v k (strC (L.take k))) ∧ Below w.heap.size w V)
    (fun _ _ _ => False) ?own (fun _ _ _ _ _ h _ _ => h) ?kp (fun _ _ _ h => h.elim) ?start
    (fun k => { tmps := #[.slice none 0 0, .func (.func 62) #[] #[.pointer (some ⟨B, 0, none⟩), .pointer (some ⟨B + 1, 0, none⟩)], .pointer (some ⟨w.heap.size, 0, none⟩), undef, .slice none 0 0, .string (g k), .func (.func 62) #[] #[.pointer (some ⟨B, 0, none⟩), .pointer (some ⟨B + 1, 0, none⟩)], .string (g k), undef, undef, undef, undef, undef], defers := [] })
    ?assign ?body ?done (fun _ _ _ _ _ _ h _ => h.elim)
  case own =>
    rintro k A V row ⟨⟨v, hv, hr⟩, hb⟩ hg hrow
    have hr' := fun r e => (hrow r e).2
    obtain ⟨v', hv', hr2, _⟩ := holdsRow_own (β := Nat) w.heap.size w.heap.size 30 9 1 (fun k => k) (fun k => strC (L.take k)) (fun _ _ => True) k A V row ⟨v, hv, hr, trivial⟩ hg hr'
    exact ⟨⟨v', hv', hr2⟩, hb.grown hg hb.size (fun k e => by have := (hrow k e).1; simp at this; omega)⟩
  case kp =>
    rintro k V ⟨⟨v, hv, hr⟩, hb⟩
    exact ⟨⟨cell_below hb HX.out.1, cell_below hb HX.out.2⟩, v, hv.cell, fun b e => (hr.lt b e).2⟩
  case start =>
    exact ⟨⟨_, Boxed.new w 30 (.slice none 0 0), World.ownsRow_nil _ _ _ _⟩, (Below.refl _ _).alloc (Nat.le_refl _) _⟩
  case assign =>
    intro l k W K hK
    gi_wp2
    exact hK
  case body =>
    rintro l k W hk ⟨⟨v, hv, hrow⟩, hB⟩
    have hc := hv.cell
    have hne := hnx2 k hk
    gi_wp2_with (gi_at_builtin; refine wpListIn_append_lies _ rfl _ _ 30 rfl w.heap.size 9 i0 (.string ⟨#[]⟩) 1 16 Try.underlying30 hi0 hzi0 hzi1 hzi2 rfl (by decide) _ _ _ rfl (hrow.alloc _) ⟨W.heap.size, 0, none⟩ 1 1 [.string (g k)] rfl rfl (cell_one_new _ _ _) (by simp [Value.oneCell']) (by decide) (by unfold maxLen; omega) (by omega) (by have := hB.size; simp; omega) ?_; intro g' cap' w3 hown' hgrow hat; have hown2 : w3.ownsRow w.heap.size 9 1 (.slice (some ⟨g', 0, none⟩) (k + 1) cap') (k + 1) (strC (L.take (k + 1))) := (by rw [← hne]; exact hown'); obtain ⟨hv1, hv2, hr2, hk2, hb2⟩ := hv.appended (by decide) hrow hB.size (Nat.le_refl _) hown2 hgrow; have hsp := spares_appended (Bs := w.heap.size) (B := w.heap.size + 1) (n := k + 1) (cap := cap') hv.cell hv1.cell hgrow (by rw [World.size_alloc] at hat; exact hat); have hc1 := hv1.cell; have hf1 := hv1.frozen)
    exact ⟨by simpa using hsp, ⟨_, hv2, hr2⟩, hB.trans hb2⟩
  case done =>
    rintro D W hD ⟨⟨v, hv, hrow⟩, hB⟩ hsh
    have hc := hv.cell
    have hD' : w.heap.size ≤ D := by simp at hD; omega
    have hK := hsh.1
    clear hsh
    gi_wp2
    refine ⟨by simp, .inl ⟨_, _, rfl, run_takeDeferred hK, ?_⟩⟩
    rw [List.take_length] at hrow
    have hr2 := ownsRow_putObj hrow (.deferred none) hK rfl
    have hB2 := hB.grown (grownBy_putObj' _ D (.deferred none)) hB.size (fun k e => by cases e; exact hD')
    exact ⟨_, results_tmp rfl _ _ _, v, rfl, IsStrs.of_row hr2 rfl, hB2⟩
set_option maxHeartbeats 1000000 in
theorem collect_at (a b c B : Nat) (w : World) (a3 : a ≤ 3) (b3 : b ≤ 3) (c8 : c ≤ 8) (h2000 : (wayN a b c).length ≤ 2000) (hbx : WayBoxes B c (mkB (lets a b)) w) :
    Calls Try.prog 50 #[.func (.func 62) #[] #[.pointer (some ⟨B, 0, none⟩), .pointer (some ⟨B + 1, 0, none⟩)]] w (StrsOf (wayN a b c) w) := by
  have H := Lib.hid (appendSeq_at a b c B w a3 b3 c8 h2000 hbx)
  clear hbx h2000
  go_enter Try.func50, Try.ntmps50
  go_wp2_with fail
  refine H.out.mono ?_
  rintro e w1 ⟨v, rfl, hI, hh⟩
  go_wp2
  go_ret
  exact ⟨v, rfl, hI, hh⟩
theorem lets_pre : ∀ x, x < 4 → ∀ y, y < 4 → (⟨#[65, 66, 67]⟩ : ByteArray).extract 0 y ++ (⟨#[97, 98, 99]⟩ : ByteArray).extract 0 x = mkB (lets x y) ∧ ((⟨#[65, 66, 67]⟩ : ByteArray).extract 0 y).size = y ∧ ((⟨#[97, 98, 99]⟩ : ByteArray).extract 0 x).size = x := by decide +kernel
set_option maxRecDepth 100000 in
set_option maxHeartbeats 4000000 in
theorem ways_yes (n x y t : Nat) (w : World) (n8 : n ≤ 8) (x3 : x ≤ 3) (y3 : y ≤ 3) (ht : cntN x y n = t) (h2 : t ≤ 2000) : Calls Try.prog 22 #[.int .i64 n, .int .i64 x, .int .i64 y] w (StrsOf (wayN x y n) w) := by
  have HC := Lib.hid (show countV n x y = t by rw [countV_is (tileB_mk n8 x3 y3), ht])
  have HL := Lib.hid (show (wayN x y n).length ≤ 2000 by rw [wayN_len, ht]; exact h2)
  obtain ⟨hcat, hsA, hsB⟩ := lets_pre x (by omega) y (by omega)
  obtain ⟨A, hA⟩ : ∃ A, (⟨#[65, 66, 67]⟩ : ByteArray).extract 0 y = A := ⟨_, rfl⟩
  obtain ⟨D, hD⟩ : ∃ D, (⟨#[97, 98, 99]⟩ : ByteArray).extract 0 x = D := ⟨_, rfl⟩
  rw [hA, hD] at hcat
  rw [hA] at hsA
  rw [hD] at hsB
  obtain ⟨T, hT⟩ : ∃ T, mkB (lets x y) = T := ⟨_, rfl⟩
  rw [hT] at hcat
  have HT := Lib.hid hT
  have HSA := Lib.hid hsA
  have HSB := Lib.hid hsB
  have hs1 : A.size + D.size ≤ 9223372036854775807 := by omega
  have hs2 : ¬ 9223372036854775807 < A.size + D.size := by omega
  have t0 : (0 : Int) ≤ (t : Int) := by omega
  have t1 : (t : Int) ≤ 2000 := by omega
  have x0 : (0 : Int) ≤ (x : Int) := by omega
  have y0 : (0 : Int) ≤ (y : Int) := by omega
  have x3i : (x : Int) ≤ 3 := by omega
  have y3i : (y : Int) ≤ 3 := by omega
  clear hT hsA hsB ht h2
  refine (callsIn_wide (n := 9)).1 ?_
  refine callsIn_of_wp Try.func22 rfl trivial ?_ rfl
  simp only [Try.ntmps22, List.size_toArray, List.length_cons, List.length_nil, Nat.reduceAdd, Nat.reduceSub, Array.replicate_succ, Array.replicate_zero, List.push_toArray, List.append_toArray, List.nil_append, List.cons_append]
  gi_wp2_with fail
  refine (callsIn_wide.2 (implCount_eq n x y t _ HC.out)).mono ?_
  rintro e w1 ⟨rfl, hh1⟩
  obtain ⟨S, hSd⟩ : ∃ S : World → Prop, (fun V' => V' = w1.drew) = S := ⟨_, rfl⟩
  have g4 : Nonempty (KeptBy S) := ⟨⟨w1.drew, by rw [← hSd]⟩⟩
  gi_wp2_with fail
  refine wpIn_region_tail (S := S) 6 rfl (by rw [← hSd]) (by kernel_rfl) (by kernel_rfl) (by kernel_rfl) (by kernel_rfl) ?_
  simp only [List.take_succ_cons, List.take_zero, List.drop_succ_cons, List.drop_zero]
  repeat (gi_big_quiet_step (fail))
  refine wpQuietIn_nil ?_
  rintro wz ⟨iz, hwz⟩
  obtain rfl : wz = w1.drew := by
    have this : S wz := by rw [hwz]; exact iz.ok
    rw [← hSd] at this
    exact this
  clear hwz iz g4 hSd
  gi_wp2_with fail
  refine (callsIn_wide.2 (waysToLay_any (n : Int) T _)).mono ?_
  rintro e w2 ⟨rfl, rfl⟩
  gi_wp2_with fail
  obtain ⟨V, hV⟩ : ∃ V, ((w1.alloc (.cells #[.int .i64 (n : Int)] 3)).alloc (.cells #[.string T] 9)).drew = V := ⟨_, rfl⟩
  have hbx : WayBoxes w1.heap.size n (mkB (lets x y)) V := by
    rw [HT.out, ← hV]
    exact ⟨(cell_drew_own _ _).trans (by go_simp), (cell_drew_own _ _).trans (by go_simp)⟩
  have hBV : Below w.heap.size w V := by
    rw [← hV]
    have hz1 := hh1.size
    exact ((hh1.alloc (by omega) _).alloc (by simp; omega) _).drew
  rw [hV]
  clear hV
  refine (callsIn_wide.2 (collect_at x y n w1.heap.size V x3 y3 n8 HL.out hbx)).mono ?_
  rintro e w3 ⟨v, rfl, hI, hh3⟩
  gi_wp2
  refine bodyPost_ret (results_tmp rfl _ _ _) rfl ?_
  exact ⟨v, rfl, hI.mono hBV.size (Nat.le_refl _) (Nat.le_refl _), hBV.trans (hh3.mono hBV.size)⟩
set_option maxHeartbeats 2000000 in
theorem implWays_any (c s d : Int) (w : World) : Calls Try.prog 22 #[.int .i64 c, .int .i64 s, .int .i64 d] w (StrsOf (waysL c s d) w) := by
  cases ht : tileB c s d with
  | false =>
    have HL := Lib.hid (waysL_no (c := c) (s := s) (d := d) (by rw [waysB, ht]; rfl))
    have HC := Lib.hid (countV_no ht)
    clear ht
    go_enter Try.func22, Try.ntmps22
    go_wp2_with fail
    refine (implCount_eq c s d (-1) _ HC.out).mono ?_
    rintro e w1 ⟨rfl, hh1⟩
    go_wp2
    go_ret
    rw [HL.out]
    exact ⟨_, rfl, (IsStrs.nil _ _ _).mono hh1.size (Nat.le_refl _) (Nat.le_refl _), hh1⟩
  | true =>
    obtain ⟨n, x, y, rfl, rfl, rfl, n8, x3, y3⟩ := tileB_true ht
    have hC := countV_is ht
    have hW : decide (countV n x y ≤ 2000) = waysB n x y := by rw [waysB, ht]; rfl
    obtain ⟨t, htt⟩ : ∃ t, cntN x y n = t := ⟨_, rfl⟩
    rw [htt] at hC
    rw [hC] at hW
    by_cases h2 : t ≤ 2000
    · rw [waysL_is (by rw [← hW]; simp; omega)]
      exact ways_yes n x y t w n8 x3 y3 htt h2
    · have HL := Lib.hid (waysL_no (c := n) (s := x) (d := y) (by rw [← hW]; simp; omega))
      have HC := Lib.hid hC
      have t1 : (2000 : Int) < (t : Int) := by omega
      have t0 : (0 : Int) ≤ (t : Int) := by omega
      clear ht hC hW htt h2
      go_enter Try.func22, Try.ntmps22
      go_wp2_with fail
      refine (implCount_eq _ _ _ t _ HC.out).mono ?_
      rintro e w1 ⟨rfl, hh1⟩
      go_wp2
      go_ret
      rw [HL.out]
      exact ⟨_, rfl, (IsStrs.nil _ _ _).mono hh1.size (Nat.le_refl _) (Nat.le_refl _), hh1⟩
end Go.Proofs.Ytlmlcbhllodncaa
namespace Go.Proofs.Ytlmlcbhllodncaa
open Go.RowKit
/-- What a draw of cells and colours, of these and a number, of a way, of a way and a number returns. -/
def DrawnTiles (w : World) (e : Ending) (w' : World) : Prop := ∃ c a b : Int, e = .returned (.tuple #[.int .i64 c, .int .i64 a, .int .i64 b]) ∧ Below w.heap.size w w'
def DrawnCuts (w : World) (e : Ending) (w' : World) : Prop := ∃ c n a b : Int, e = .returned (.tuple #[.int .i64 c, .int .i64 n, .int .i64 a, .int .i64 b]) ∧ Below w.heap.size w w'
def DrawnWay (w : World) (e : Ending) (w' : World) : Prop := ∃ s : ByteArray, e = .returned (.string s) ∧ s.size ≤ 100 ∧ Below w.heap.size w w'
def DrawnCut (w : World) (e : Ending) (w' : World) : Prop := ∃ (s : ByteArray) (n : Int), e = .returned (.tuple #[.string s, .int .i64 n]) ∧ s.size ≤ 100 ∧ Below w.heap.size w w'
def DrawnCol (w : World) (e : Ending) (w' : World) : Prop := ∃ a b : Int, e = .returned (.tuple #[.int .i64 a, .int .i64 b]) ∧ Below w.heap.size w w'
set_option maxHeartbeats 2000000 in
theorem drawColoursOk_any (w : World) (a : Option Addr) (len cap : Nat) (zs : List Int) (h : IsRow w a len cap zs) :
    Calls Try.prog 17 #[.slice a len cap] w (DrawnCol w) := by
  go_enter Try.func17, Try.ntmps17
  go_wp2_with fail
  refine (open_any _ _ _ _ zs h).mono ?_
  rintro e w1 ⟨rfl, hR1, hh1, hzR1⟩
  try simp only [World.size_alloc] at hzR1
  try simp only [World.size_alloc] at hR1
  obtain ⟨hc1, hf1⟩ := bcell hh1
  have hz1 := hh1.size
  try simp only [World.size_alloc] at hz1
  go_wp2_with fail
  refine (pick_any w.heap.size 0 6 _ hR1 (by omega) (by omega)).mono ?_
  rintro e w2 ⟨v2, rfl, va2, vb2, hR2, hh2⟩
  have vc2 : v2 ≤ max (6 - 1) 0 := by omega
  clear vb2
  obtain ⟨hc2, hf2⟩ := gcell hh2
  have hz2 := hh2.size
  try simp only [World.size_alloc] at hz2
  clear hc2 hf2
  go_wp2_with fail
  refine (pick_any w.heap.size (0 + 1) 6 _ hR2 (by omega) (by omega)).mono ?_
  rintro e w3 ⟨v3, rfl, va3, vb3, hR3, hh3⟩
  have vc3 : v3 ≤ max (6 - 1) 0 := by omega
  clear vb3
  obtain ⟨hc3, hf3⟩ := gcell hh3
  have hz3 := hh3.size
  try simp only [World.size_alloc] at hz3
  clear hc3 hf3
  go_wp2
  refine bodyPost_ret (v := .tuple #[.int .i64 (v2 - 1), .int .i64 (v3 - 1)]) (by simp [results, Try.results17, go_sem]) rfl ⟨_, _, rfl, ?_⟩
  (repeat (first | exact Below.refl _ _ | refine Below.setCell ?_ (by first | omega | (simp <;> omega)) _ | refine Below.alloc ?_ (by first | omega | (simp <;> omega)) _ | refine Below.drew ?_ | refine Below.trans ?_ (Below.mono (by assumption) (by first | omega | (simp <;> omega))) | refine Below.grown ?_ (by assumption) (by first | omega | (simp <;> omega)) (fun k e => by cases e; first | omega | (simp <;> omega))))
set_option maxHeartbeats 2000000 in
theorem drawWaysOf_any (w : World) (a : Option Addr) (len cap : Nat) (zs : List Int) (h : IsRow w a len cap zs) :
    Calls Try.prog 21 #[.slice a len cap] w (DrawnTiles w) := by
  go_enter Try.func21, Try.ntmps21
  go_wp2_with fail
  refine (open_any _ _ _ _ zs h).mono ?_
  rintro e w1 ⟨rfl, hR1, hh1, hzR1⟩
  try simp only [World.size_alloc] at hzR1
  try simp only [World.size_alloc] at hR1
  obtain ⟨hc1, hf1⟩ := bcell hh1
  have hz1 := hh1.size
  try simp only [World.size_alloc] at hz1
  go_wp2_with fail
  refine (l20Tiles_any w.heap.size 0 _ hR1 (by omega)).mono ?_
  rintro e w2 ⟨c2, a2, b2, rfl, hcc2, hR2, hh2⟩
  obtain ⟨hc2, hf2⟩ := gcell hh2
  have hz2 := hh2.size
  try simp only [World.size_alloc] at hz2
  clear hc2 hf2
  have m1 : 0 ≤ c2 * 2 := by omega
  have m2 : c2 * 2 ≤ 2000 := by omega
  have dt : Int.tdiv (c2 * 2) 3 = c2 * 2 / 3 := Int.tdiv_eq_ediv_of_nonneg m1
  have q1 : 0 ≤ c2 * 2 / 3 := by omega
  have q2 : c2 * 2 / 3 ≤ 700 := by omega
  go_wp2
  refine bodyPost_ret (v := .tuple #[.int .i64 (c2 * 2 / 3), .int .i64 a2, .int .i64 b2]) (by simp [results, Try.results21, go_sem]) rfl ⟨_, _, _, rfl, ?_⟩
  (repeat (first | exact Below.refl _ _ | refine Below.setCell ?_ (by first | omega | (simp <;> omega)) _ | refine Below.alloc ?_ (by first | omega | (simp <;> omega)) _ | refine Below.drew ?_ | refine Below.trans ?_ (Below.mono (by assumption) (by first | omega | (simp <;> omega))) | refine Below.grown ?_ (by assumption) (by first | omega | (simp <;> omega)) (fun k e => by cases e; first | omega | (simp <;> omega))))
set_option maxHeartbeats 2000000 in
theorem drawCountWays_any (w : World) (a : Option Addr) (len cap : Nat) (zs : List Int) (h : IsRow w a len cap zs) :
    Calls Try.prog 27 #[.slice a len cap] w (DrawnTiles w) := by
  go_enter Try.func27, Try.ntmps27
  go_wp2_with fail
  refine (open_any _ _ _ _ zs h).mono ?_
  rintro e w1 ⟨rfl, hR1, hh1, hzR1⟩
  try simp only [World.size_alloc] at hzR1
  try simp only [World.size_alloc] at hR1
  obtain ⟨hc1, hf1⟩ := bcell hh1
  have hz1 := hh1.size
  try simp only [World.size_alloc] at hz1
  go_wp2_with fail
  refine (l20Tiles_any w.heap.size 0 _ hR1 (by omega)).mono ?_
  rintro e w2 ⟨c2, a2, b2, rfl, hcc2, hR2, hh2⟩
  obtain ⟨hc2, hf2⟩ := gcell hh2
  have hz2 := hh2.size
  try simp only [World.size_alloc] at hz2
  clear hc2 hf2
  go_wp2
  first
    | (go_ret; exact ⟨_, _, _, rfl, by (repeat (first | exact Below.refl _ _ | refine Below.setCell ?_ (by first | omega | (simp <;> omega)) _ | refine Below.alloc ?_ (by first | omega | (simp <;> omega)) _ | refine Below.drew ?_ | refine Below.trans ?_ (Below.mono (by assumption) (by first | omega | (simp <;> omega))) | refine Below.grown ?_ (by assumption) (by first | omega | (simp <;> omega)) (fun k e => by cases e; first | omega | (simp <;> omega))))⟩)
    | (refine bodyPost_ret (v := .tuple #[.int .i64 c2, .int .i64 a2, .int .i64 b2]) (by simp [results, Try.results27, go_sem]) rfl ⟨_, _, _, rfl, ?_⟩; (repeat (first | exact Below.refl _ _ | refine Below.setCell ?_ (by first | omega | (simp <;> omega)) _ | refine Below.alloc ?_ (by first | omega | (simp <;> omega)) _ | refine Below.drew ?_ | refine Below.trans ?_ (Below.mono (by assumption) (by first | omega | (simp <;> omega))) | refine Below.grown ?_ (by assumption) (by first | omega | (simp <;> omega)) (fun k e => by cases e; first | omega | (simp <;> omega)))))
set_option maxHeartbeats 2000000 in
theorem drawCountRings_any (w : World) (a : Option Addr) (len cap : Nat) (zs : List Int) (h : IsRow w a len cap zs) :
    Calls Try.prog 30 #[.slice a len cap] w (DrawnTiles w) := by
  go_enter Try.func30, Try.ntmps30
  go_wp2_with fail
  refine (open_any _ _ _ _ zs h).mono ?_
  rintro e w1 ⟨rfl, hR1, hh1, hzR1⟩
  try simp only [World.size_alloc] at hzR1
  try simp only [World.size_alloc] at hR1
  obtain ⟨hc1, hf1⟩ := bcell hh1
  have hz1 := hh1.size
  try simp only [World.size_alloc] at hz1
  go_wp2_with fail
  refine (l20Tiles_any w.heap.size 0 _ hR1 (by omega)).mono ?_
  rintro e w2 ⟨c2, a2, b2, rfl, hcc2, hR2, hh2⟩
  obtain ⟨hc2, hf2⟩ := gcell hh2
  have hz2 := hh2.size
  try simp only [World.size_alloc] at hz2
  clear hc2 hf2
  go_wp2
  first
    | (go_ret; exact ⟨_, _, _, rfl, by (repeat (first | exact Below.refl _ _ | refine Below.setCell ?_ (by first | omega | (simp <;> omega)) _ | refine Below.alloc ?_ (by first | omega | (simp <;> omega)) _ | refine Below.drew ?_ | refine Below.trans ?_ (Below.mono (by assumption) (by first | omega | (simp <;> omega))) | refine Below.grown ?_ (by assumption) (by first | omega | (simp <;> omega)) (fun k e => by cases e; first | omega | (simp <;> omega))))⟩)
    | (refine bodyPost_ret (v := .tuple #[.int .i64 c2, .int .i64 a2, .int .i64 b2]) (by simp [results, Try.results30, go_sem]) rfl ⟨_, _, _, rfl, ?_⟩; (repeat (first | exact Below.refl _ _ | refine Below.setCell ?_ (by first | omega | (simp <;> omega)) _ | refine Below.alloc ?_ (by first | omega | (simp <;> omega)) _ | refine Below.drew ?_ | refine Below.trans ?_ (Below.mono (by assumption) (by first | omega | (simp <;> omega))) | refine Below.grown ?_ (by assumption) (by first | omega | (simp <;> omega)) (fun k e => by cases e; first | omega | (simp <;> omega)))))
set_option maxHeartbeats 2000000 in
theorem drawCellsOf_any (w : World) (a : Option Addr) (len cap : Nat) (zs : List Int) (h : IsRow w a len cap zs) :
    Calls Try.prog 34 #[.slice a len cap] w (DrawnWay w) := by
  go_enter Try.func34, Try.ntmps34
  go_wp2_with fail
  refine (open_any _ _ _ _ zs h).mono ?_
  rintro e w1 ⟨rfl, hR1, hh1, hzR1⟩
  try simp only [World.size_alloc] at hzR1
  try simp only [World.size_alloc] at hR1
  obtain ⟨hc1, hf1⟩ := bcell hh1
  have hz1 := hh1.size
  try simp only [World.size_alloc] at hz1
  go_wp2_with fail
  refine (l20Way_any w.heap.size 0 5 _ hR1 (by omega) (by omega)).mono ?_
  rintro e w2 ⟨s2, rfl, hs2, hR2, hh2⟩
  obtain ⟨hc2, hf2⟩ := gcell hh2
  have hz2 := hh2.size
  try simp only [World.size_alloc] at hz2
  clear hc2 hf2
  go_wp2
  go_ret
  exact ⟨_, rfl, hs2, by (repeat (first | exact Below.refl _ _ | refine Below.setCell ?_ (by first | omega | (simp <;> omega)) _ | refine Below.alloc ?_ (by first | omega | (simp <;> omega)) _ | refine Below.drew ?_ | refine Below.trans ?_ (Below.mono (by assumption) (by first | omega | (simp <;> omega))) | refine Below.grown ?_ (by assumption) (by first | omega | (simp <;> omega)) (fun k e => by cases e; first | omega | (simp <;> omega))))⟩
set_option maxHeartbeats 2000000 in
theorem drawCutOk_any (w : World) (a : Option Addr) (len cap : Nat) (zs : List Int) (h : IsRow w a len cap zs) :
    Calls Try.prog 36 #[.slice a len cap] w (DrawnCut w) := by
  go_enter Try.func36, Try.ntmps36
  go_wp2_with fail
  refine (open_any _ _ _ _ zs h).mono ?_
  rintro e w1 ⟨rfl, hR1, hh1, hzR1⟩
  try simp only [World.size_alloc] at hzR1
  try simp only [World.size_alloc] at hR1
  obtain ⟨hc1, hf1⟩ := bcell hh1
  have hz1 := hh1.size
  try simp only [World.size_alloc] at hz1
  go_wp2_with fail
  refine (l20Way_any w.heap.size 0 9 _ hR1 (by omega) (by omega)).mono ?_
  rintro e w2 ⟨s2, rfl, hs2, hR2, hh2⟩
  obtain ⟨hc2, hf2⟩ := gcell hh2
  have hz2 := hh2.size
  try simp only [World.size_alloc] at hz2
  clear hc2 hf2
  go_wp2_with fail
  refine (specCells_any s2 _ (by omega)).mono ?_
  rintro e wx ⟨rfl, rfl⟩
  have hcv := cellsV_bd s2
  obtain ⟨y, hy⟩ : ∃ y, cellsV s2 = y := ⟨_, rfl⟩
  rw [hy] at hcv ⊢
  clear hy
  rcases Int.lt_or_le y 0 with hy0 | hy0
  · skip
    go_wp2_with fail
    refine (pick_any w.heap.size (0 + 8) _ _ hR2 (by omega) (by omega)).mono ?_
    rintro e w3 ⟨v3, rfl, va3, vb3, hR3, hh3⟩
    have vc3 : v3 ≤ 100 := by omega
    clear vb3
    have hz3 := hh3.size
    go_wp2_with fail
    refine (pick_any w.heap.size (0 + 8 + 1) 20 _ hR3 (by omega) (by omega)).mono ?_
    rintro e w4 ⟨v4, rfl, va4, vb4, hR4, hh4⟩
    have vc4 : v4 ≤ max (20 - 1) 0 := by omega
    clear vb4
    obtain ⟨hc4, hf4⟩ := gcell hh4
    have hz4 := hh4.size
    try simp only [World.size_alloc] at hz4
    clear hc4 hf4
    have q4a : 0 ≤ v4 / 19 := by omega
    have q4b : v4 / 19 ≤ 1 := by omega
    go_wp2
    refine bodyPost_ret (v := .tuple #[.string s2, .int .i64 (v3 - v4 / 19)]) (by simp [results, Try.results36, go_sem]) rfl ⟨_, _, rfl, hs2, ?_⟩
    (repeat (first | exact Below.refl _ _ | refine Below.setCell ?_ (by first | omega | (simp <;> omega)) _ | refine Below.alloc ?_ (by first | omega | (simp <;> omega)) _ | refine Below.drew ?_ | refine Below.trans ?_ (Below.mono (by assumption) (by first | omega | (simp <;> omega))) | refine Below.grown ?_ (by assumption) (by first | omega | (simp <;> omega)) (fun k e => by cases e; first | omega | (simp <;> omega))))
  · skip
    go_wp2_with fail
    refine (pick_any w.heap.size (0 + 8) _ _ hR2 (by omega) (by omega)).mono ?_
    rintro e w3 ⟨v3, rfl, va3, vb3, hR3, hh3⟩
    have vc3 : v3 ≤ 100 := by omega
    clear vb3
    have hz3 := hh3.size
    go_wp2_with fail
    refine (pick_any w.heap.size (0 + 8 + 1) 20 _ hR3 (by omega) (by omega)).mono ?_
    rintro e w4 ⟨v4, rfl, va4, vb4, hR4, hh4⟩
    have vc4 : v4 ≤ max (20 - 1) 0 := by omega
    clear vb4
    obtain ⟨hc4, hf4⟩ := gcell hh4
    have hz4 := hh4.size
    try simp only [World.size_alloc] at hz4
    clear hc4 hf4
    have q4a : 0 ≤ v4 / 19 := by omega
    have q4b : v4 / 19 ≤ 1 := by omega
    go_wp2
    refine bodyPost_ret (v := .tuple #[.string s2, .int .i64 (v3 - v4 / 19)]) (by simp [results, Try.results36, go_sem]) rfl ⟨_, _, rfl, hs2, ?_⟩
    (repeat (first | exact Below.refl _ _ | refine Below.setCell ?_ (by first | omega | (simp <;> omega)) _ | refine Below.alloc ?_ (by first | omega | (simp <;> omega)) _ | refine Below.drew ?_ | refine Below.trans ?_ (Below.mono (by assumption) (by first | omega | (simp <;> omega))) | refine Below.grown ?_ (by assumption) (by first | omega | (simp <;> omega)) (fun k e => by cases e; first | omega | (simp <;> omega))))
set_option maxHeartbeats 2000000 in
theorem drawCountCut_any (w : World) (a : Option Addr) (len cap : Nat) (zs : List Int) (h : IsRow w a len cap zs) :
    Calls Try.prog 39 #[.slice a len cap] w (DrawnCuts w) := by
  go_enter Try.func39, Try.ntmps39
  go_wp2_with fail
  refine (open_any _ _ _ _ zs h).mono ?_
  rintro e w1 ⟨rfl, hR1, hh1, hzR1⟩
  try simp only [World.size_alloc] at hzR1
  try simp only [World.size_alloc] at hR1
  obtain ⟨hc1, hf1⟩ := bcell hh1
  have hz1 := hh1.size
  try simp only [World.size_alloc] at hz1
  go_wp2_with fail
  refine (l20Tiles_any w.heap.size 0 _ hR1 (by omega)).mono ?_
  rintro e w2 ⟨c2, a2, b2, rfl, hcc2, hR2, hh2⟩
  obtain ⟨hc2, hf2⟩ := gcell hh2
  have hz2 := hh2.size
  try simp only [World.size_alloc] at hz2
  clear hc2 hf2
  have UC : IntKind.i64.wrap (c2 + 2) = c2 + 2 := by rw [IntKind.wrap_i64]; omega
  go_wp2_with fail
  refine (pick_any w.heap.size (0 + 5) (c2 + 2) _ hR2 (by omega) (by omega)).mono ?_
  rintro e w3 ⟨v3, rfl, va3, vb3, hR3, hh3⟩
  have vc3 : v3 ≤ max ((c2 + 2) - 1) 0 := by omega
  clear vb3
  obtain ⟨hc3, hf3⟩ := gcell hh3
  have hz3 := hh3.size
  try simp only [World.size_alloc] at hz3
  clear hc3 hf3
  go_wp2_with fail
  refine (pick_any w.heap.size (0 + 5 + 1) 30 _ hR3 (by omega) (by omega)).mono ?_
  rintro e w4 ⟨v4, rfl, va4, vb4, hR4, hh4⟩
  have vc4 : v4 ≤ max (30 - 1) 0 := by omega
  clear vb4
  obtain ⟨hc4, hf4⟩ := gcell hh4
  have hz4 := hh4.size
  try simp only [World.size_alloc] at hz4
  clear hc4 hf4
  have q4a : 0 ≤ v4 / 29 := by omega
  have q4b : v4 / 29 ≤ 1 := by omega
  go_wp2
  refine bodyPost_ret (v := .tuple #[.int .i64 c2, .int .i64 (v3 - v4 / 29), .int .i64 a2, .int .i64 b2]) (by simp [results, Try.results39, go_sem]) rfl ⟨_, _, _, _, rfl, ?_⟩
  (repeat (first | exact Below.refl _ _ | refine Below.setCell ?_ (by first | omega | (simp <;> omega)) _ | refine Below.alloc ?_ (by first | omega | (simp <;> omega)) _ | refine Below.drew ?_ | refine Below.trans ?_ (Below.mono (by assumption) (by first | omega | (simp <;> omega))) | refine Below.grown ?_ (by assumption) (by first | omega | (simp <;> omega)) (fun k e => by cases e; first | omega | (simp <;> omega))))
end Go.Proofs.Ytlmlcbhllodncaa
namespace Go.Proofs.Ytlmlcbhllodncaa
open Go.RowKit
theorem implColours_is (s d : Int) (v : Bool) (w : World) (h : colB s d = v) : Calls Try.prog 18 #[.int .i64 s, .int .i64 d] w fun e w' => e = .returned (.bool v) ∧ Below w.heap.size w w' := by rw [← h]; exact implColours_any s d w
theorem implCount_is (c s d v : Int) (w : World) (h : countV c s d = v) : Calls Try.prog 26 #[.int .i64 c, .int .i64 s, .int .i64 d] w fun e w' => e = .returned (.int .i64 v) ∧ Below w.heap.size w w' := by rw [← h]; exact implCount_any c s d w
theorem implRings_is (c s d v : Int) (w : World) (h : ringV c s d = v) : Calls Try.prog 31 #[.int .i64 c, .int .i64 s, .int .i64 d] w fun e w' => e = .returned (.int .i64 v) ∧ Below w.heap.size w w' := by rw [← h]; exact implRings_any c s d w
theorem implCuts_is (c b s d v : Int) (w : World) (h : cutsV c b s d = v) : Calls Try.prog 40 #[.int .i64 c, .int .i64 b, .int .i64 s, .int .i64 d] w fun e w' => e = .returned (.int .i64 v) ∧ Below w.heap.size w w' := by rw [← h]; exact implCuts_any c b s d w
theorem implCells_is (s : ByteArray) (v : Int) (w : World) (hs : s.size ≤ 1048600) (h : cellsV s = v) : Calls Try.prog 25 #[.string s] w fun e w' => e = .returned (.int .i64 v) ∧ Below w.heap.size w w' := by rw [← h]; exact implCells_any s w hs
theorem implCut_is (s : ByteArray) (c : Int) (v : Bool) (w : World) (hs : s.size ≤ 1048600) (h : cutB s c = v) : Calls Try.prog 37 #[.string s, .int .i64 c] w fun e w' => e = .returned (.bool v) ∧ Below w.heap.size w w' := by rw [← h]; exact implCut_any s c w hs
theorem implWays_is (c s d : Int) (L : List (List UInt8)) (w : World) (h : waysL c s d = L) : Calls Try.prog 22 #[.int .i64 c, .int .i64 s, .int .i64 d] w (StrsOf L w) := by rw [← h]; exact implWays_any c s d w
theorem ways_lenL (n x y : Int) : (waysL n x y).length ≤ 200000 := by
  cases h : waysB n x y with
  | false => rw [waysL_no h]; simp
  | true =>
    have ht : tileB n x y = true := by rw [waysB, Bool.and_eq_true] at h; exact h.1
    obtain ⟨m, a, b, rfl, rfl, rfl, h0, h1, h2⟩ := tileB_true ht
    rw [waysL_is h, wayN_len]
    exact cntN_bd a (by omega) b (by omega) m (by omega)
theorem pairB_col {a b : Nat} (h1 : a ≤ 3) (h2 : b ≤ 3) : pairB a (-(b : Int)) = true := by
  rcases (show a = 0 ∨ a = 1 ∨ a = 2 ∨ a = 3 by omega) with rfl | rfl | rfl | rfl <;> rcases (show b = 0 ∨ b = 1 ∨ b = 2 ∨ b = 3 by omega) with rfl | rfl | rfl | rfl <;> decide
end Go.Proofs.Ytlmlcbhllodncaa
namespace Go.Proofs.Ytlmlcbhllodncaa
open Go.RowKit
set_option maxRecDepth 100000 in
set_option maxHeartbeats 8000000 in
theorem fnColoursOk_walk (a : Option Addr) (len cap : Nat) (z : List Int) (w : World) (w0 : IsRow w a len cap z) :
    Calls Try.prog 3 #[.slice a len cap] w fun e w' => e = .returned (.bool true) ∧ Below w.heap.size w w' := by
  by_cases hbig : 1048576 < len
  · go_enter Try.func3, Try.ntmps3
    go_wp2
    go_ret
    exact ⟨rfl, Below.refl _ _⟩
  · have hsm : len ≤ 1048576 := by omega
    go_enter Try.func3, Try.ntmps3
    go_wp2_with fail
    refine (drawColoursOk_any _ _ _ _ z w0).mono ?_
    rintro e w1 ⟨s, d, rfl, hh1⟩
    have hz1 := hh1.size
    obtain ⟨hc1, hf1⟩ := bcell hh1
    obtain ⟨c, hc⟩ : ∃ c, colB s d = c := ⟨_, rfl⟩
    have HC := Lib.hid hc
    have HD := Lib.hid (show colB d s = c by rw [← hc, colB, colB, Bool.and_comm])
    have HZ := Lib.hid (show colB 0 0 = true by decide)
    have HT := Lib.hid (show colB 3 3 = true by decide)
    clear hc
    have hcc : (c == c) = true := by simp
    cases c with
    | true =>
      go_wp2_with fail
      refine (implColours_is s d _ _ HC.out).mono ?_
      rintro e w2 ⟨rfl, hh2⟩
      obtain ⟨hc2, hf2⟩ := bcell hh2
      have hz2 := hh2.size
      try simp only [World.size_alloc] at hz2
      clear hc2 hf2
      go_wp2_with fail
      refine (specColours_is s d _ _ HC.out).mono ?_
      rintro e wx ⟨rfl, rfl⟩
      go_wp2_with fail
      refine (implColours_is d s _ _ HD.out).mono ?_
      rintro e w4 ⟨rfl, hh4⟩
      obtain ⟨hc4, hf4⟩ := bcell hh4
      have hz4 := hh4.size
      try simp only [World.size_alloc] at hz4
      clear hc4 hf4
      go_wp2_with fail
      refine (implColours_is 0 0 true _ HZ.out).mono ?_
      rintro e w5 ⟨rfl, hh5⟩
      obtain ⟨hc5, hf5⟩ := bcell hh5
      have hz5 := hh5.size
      try simp only [World.size_alloc] at hz5
      clear hc5 hf5
      go_wp2_with fail
      refine (implColours_is 3 3 true _ HT.out).mono ?_
      rintro e w6 ⟨rfl, hh6⟩
      obtain ⟨hc6, hf6⟩ := bcell hh6
      have hz6 := hh6.size
      try simp only [World.size_alloc] at hz6
      clear hc6 hf6
      go_wp2_with fail
      refine (alive_any _).mono ?_
      rintro e w7 ⟨rfl, hh7⟩
      obtain ⟨hc7, hf7⟩ := bcell hh7
      have hz7 := hh7.size
      try simp only [World.size_alloc] at hz7
      clear hc7 hf7
      go_wp2
      go_ret
      exact ⟨rfl, by (repeat (first | exact Below.refl _ _ | refine Below.setCell ?_ (by first | omega | (simp <;> omega)) _ | refine Below.alloc ?_ (by first | omega | (simp <;> omega)) _ | refine Below.drew ?_ | refine Below.trans ?_ (Below.mono (by assumption) (by first | omega | (simp <;> omega))) | refine Below.grown ?_ (by assumption) (by first | omega | (simp <;> omega)) (fun k e => by cases e; first | omega | (simp <;> omega))))⟩
    | false =>
      go_wp2_with fail
      refine (implColours_is s d _ _ HC.out).mono ?_
      rintro e w2 ⟨rfl, hh2⟩
      obtain ⟨hc2, hf2⟩ := bcell hh2
      have hz2 := hh2.size
      try simp only [World.size_alloc] at hz2
      clear hc2 hf2
      go_wp2_with fail
      refine (specColours_is s d _ _ HC.out).mono ?_
      rintro e wx ⟨rfl, rfl⟩
      go_wp2_with fail
      refine (implColours_is d s _ _ HD.out).mono ?_
      rintro e w4 ⟨rfl, hh4⟩
      obtain ⟨hc4, hf4⟩ := bcell hh4
      have hz4 := hh4.size
      try simp only [World.size_alloc] at hz4
      clear hc4 hf4
      go_wp2_with fail
      refine (implColours_is 0 0 true _ HZ.out).mono ?_
      rintro e w5 ⟨rfl, hh5⟩
      obtain ⟨hc5, hf5⟩ := bcell hh5
      have hz5 := hh5.size
      try simp only [World.size_alloc] at hz5
      clear hc5 hf5
      go_wp2_with fail
      refine (implColours_is 3 3 true _ HT.out).mono ?_
      rintro e w6 ⟨rfl, hh6⟩
      obtain ⟨hc6, hf6⟩ := bcell hh6
      have hz6 := hh6.size
      try simp only [World.size_alloc] at hz6
      clear hc6 hf6
      go_wp2_with fail
      refine (alive_any _).mono ?_
      rintro e w7 ⟨rfl, hh7⟩
      obtain ⟨hc7, hf7⟩ := bcell hh7
      have hz7 := hh7.size
      try simp only [World.size_alloc] at hz7
      clear hc7 hf7
      go_wp2
      go_ret
      exact ⟨rfl, by (repeat (first | exact Below.refl _ _ | refine Below.setCell ?_ (by first | omega | (simp <;> omega)) _ | refine Below.alloc ?_ (by first | omega | (simp <;> omega)) _ | refine Below.drew ?_ | refine Below.trans ?_ (Below.mono (by assumption) (by first | omega | (simp <;> omega))) | refine Below.grown ?_ (by assumption) (by first | omega | (simp <;> omega)) (fun k e => by cases e; first | omega | (simp <;> omega))))⟩
set_option maxRecDepth 100000 in
set_option maxHeartbeats 8000000 in
theorem fnCountWays_walk (a : Option Addr) (len cap : Nat) (z : List Int) (w : World) (w0 : IsRow w a len cap z) :
    Calls Try.prog 5 #[.slice a len cap] w fun e w' => e = .returned (.bool true) ∧ Below w.heap.size w w' := by
  by_cases hbig : 1048576 < len
  · go_enter Try.func5, Try.ntmps5
    go_wp2
    go_ret
    exact ⟨rfl, Below.refl _ _⟩
  · have hsm : len ≤ 1048576 := by omega
    go_enter Try.func5, Try.ntmps5
    go_wp2_with fail
    refine (drawCountWays_any _ _ _ _ z w0).mono ?_
    rintro e w1 ⟨c, s, d, rfl, hh1⟩
    have hz1 := hh1.size
    obtain ⟨hc1, hf1⟩ := bcell hh1
    cases ht : tileB c s d with
    | false =>
      have HV := Lib.hid (countV_no ht)
      clear ht
      go_wp2_with fail
      refine (implCount_is c s d (-1) _ HV.out).mono ?_
      rintro e w2 ⟨rfl, hh2⟩
      obtain ⟨hc2, hf2⟩ := bcell hh2
      have hz2 := hh2.size
      try simp only [World.size_alloc] at hz2
      clear hc2 hf2
      go_wp2_with fail
      refine (specCount_is c s d (-1) _ HV.out).mono ?_
      rintro e wx ⟨rfl, rfl⟩
      go_wp2_with fail
      refine (alive_any _).mono ?_
      rintro e w3 ⟨rfl, hh3⟩
      obtain ⟨hc3, hf3⟩ := bcell hh3
      have hz3 := hh3.size
      try simp only [World.size_alloc] at hz3
      clear hc3 hf3
      go_wp2
      go_ret
      exact ⟨rfl, by (repeat (first | exact Below.refl _ _ | refine Below.setCell ?_ (by first | omega | (simp <;> omega)) _ | refine Below.alloc ?_ (by first | omega | (simp <;> omega)) _ | refine Below.drew ?_ | refine Below.trans ?_ (Below.mono (by assumption) (by first | omega | (simp <;> omega))) | refine Below.grown ?_ (by assumption) (by first | omega | (simp <;> omega)) (fun k e => by cases e; first | omega | (simp <;> omega))))⟩
    | true =>
      obtain ⟨n, a, b, rfl, rfl, rfl, n8, a3, b3⟩ := tileB_true ht
      have hV := countV_is ht
      have HP := Lib.hid (pairB_col a3 b3)
      have hR := Lib.hid ((cntN_row a b n).symm)
      have hbd := cntN_bd a (by omega) b (by omega) n (by omega)
      obtain ⟨v, hv⟩ : ∃ v : Int, (cntN a b n : Int) = v := ⟨_, rfl⟩
      rw [hv] at hV hR
      have v1 : v ≤ 200000 := by omega
      have HV := Lib.hid hV
      have v0 : (0 : Int) ≤ v := by omega
      have hneg : IntKind.i64.wrap (-(b : Int)) = -(b : Int) := by rw [IntKind.wrap_i64]; omega
      clear ht hV hbd
      try clear m1
      go_wp2_with fail
      refine (implCount_is n a b v _ HV.out).mono ?_
      rintro e w2 ⟨rfl, hh2⟩
      obtain ⟨hc2, hf2⟩ := bcell hh2
      have hz2 := hh2.size
      try simp only [World.size_alloc] at hz2
      clear hc2 hf2
      go_wp2_with fail
      refine (specCount_is n a b v _ HV.out).mono ?_
      rintro e wx ⟨rfl, rfl⟩
      go_wp2_with fail
      refine (implFirst_at a (-(b : Int)) (n + 1) v _ _ (by omega) HP.out (by omega) hR.out).mono ?_
      rintro e w3 ⟨rfl, hh3⟩
      obtain ⟨hc3, hf3⟩ := bcell hh3
      have hz3 := hh3.size
      try simp only [World.size_alloc] at hz3
      clear hc3 hf3
      go_wp2
      go_ret
      exact ⟨rfl, by (repeat (first | exact Below.refl _ _ | refine Below.setCell ?_ (by first | omega | (simp <;> omega)) _ | refine Below.alloc ?_ (by first | omega | (simp <;> omega)) _ | refine Below.drew ?_ | refine Below.trans ?_ (Below.mono (by assumption) (by first | omega | (simp <;> omega))) | refine Below.grown ?_ (by assumption) (by first | omega | (simp <;> omega)) (fun k e => by cases e; first | omega | (simp <;> omega))))⟩
set_option maxRecDepth 100000 in
set_option maxHeartbeats 8000000 in
theorem fnCountRings_walk (a : Option Addr) (len cap : Nat) (z : List Int) (w : World) (w0 : IsRow w a len cap z) :
    Calls Try.prog 6 #[.slice a len cap] w fun e w' => e = .returned (.bool true) ∧ Below w.heap.size w w' := by
  by_cases hbig : 1048576 < len
  · go_enter Try.func6, Try.ntmps6
    go_wp2
    go_ret
    exact ⟨rfl, Below.refl _ _⟩
  · have hsm : len ≤ 1048576 := by omega
    go_enter Try.func6, Try.ntmps6
    go_wp2_with fail
    refine (drawCountRings_any _ _ _ _ z w0).mono ?_
    rintro e w1 ⟨c, s, d, rfl, hh1⟩
    have hz1 := hh1.size
    obtain ⟨hc1, hf1⟩ := bcell hh1
    cases ht : ringB c s d with
    | false =>
      have HV := Lib.hid (ringV_no ht)
      clear ht
      go_wp2_with fail
      refine (implRings_is c s d (-1) _ HV.out).mono ?_
      rintro e w2 ⟨rfl, hh2⟩
      obtain ⟨hc2, hf2⟩ := bcell hh2
      have hz2 := hh2.size
      try simp only [World.size_alloc] at hz2
      clear hc2 hf2
      go_wp2_with fail
      refine (specRings_is c s d (-1) _ HV.out).mono ?_
      rintro e wx ⟨rfl, rfl⟩
      go_wp2_with fail
      refine (alive_any _).mono ?_
      rintro e w3 ⟨rfl, hh3⟩
      obtain ⟨hc3, hf3⟩ := bcell hh3
      have hz3 := hh3.size
      try simp only [World.size_alloc] at hz3
      clear hc3 hf3
      go_wp2
      go_ret
      exact ⟨rfl, by (repeat (first | exact Below.refl _ _ | refine Below.setCell ?_ (by first | omega | (simp <;> omega)) _ | refine Below.alloc ?_ (by first | omega | (simp <;> omega)) _ | refine Below.drew ?_ | refine Below.trans ?_ (Below.mono (by assumption) (by first | omega | (simp <;> omega))) | refine Below.grown ?_ (by assumption) (by first | omega | (simp <;> omega)) (fun k e => by cases e; first | omega | (simp <;> omega))))⟩
    | true =>
      obtain ⟨n, a, b, rfl, rfl, rfl, n2, n8, a3, b3⟩ := ringB_true ht
      have hV := ringV_is ht
      have HP := Lib.hid (pairB_col a3 b3)
      have hR := Lib.hid (show row a (-(b : Int)) 2 a n = (cntN a b n : Int) + (b : Int) * (cntN a b (n - 2) : Int) by obtain ⟨m, rfl⟩ : ∃ m, n = m + 2 := ⟨n - 2, by omega⟩; exact (cntN_ring a b m).symm)
      have hbd := cntN_bd a (by omega) b (by omega) n (by omega)
      have m1 := mul_low b3 (cntN_bd a (by omega) b (by omega) (n - 2) (by omega))
      obtain ⟨v, hv⟩ : ∃ v : Int, (cntN a b n : Int) + (b : Int) * (cntN a b (n - 2) : Int) = v := ⟨_, rfl⟩
      rw [hv] at hV hR
      have v1 : v ≤ 2000000 := by omega
      have HV := Lib.hid hV
      have v0 : (0 : Int) ≤ v := by omega
      have hneg : IntKind.i64.wrap (-(b : Int)) = -(b : Int) := by rw [IntKind.wrap_i64]; omega
      clear ht hV hbd
      try clear m1
      go_wp2_with fail
      refine (implRings_is n a b v _ HV.out).mono ?_
      rintro e w2 ⟨rfl, hh2⟩
      obtain ⟨hc2, hf2⟩ := bcell hh2
      have hz2 := hh2.size
      try simp only [World.size_alloc] at hz2
      clear hc2 hf2
      go_wp2_with fail
      refine (specRings_is n a b v _ HV.out).mono ?_
      rintro e wx ⟨rfl, rfl⟩
      go_wp2_with fail
      refine (implSecond_at a (-(b : Int)) n v _ _ rfl HP.out (by omega) hR.out).mono ?_
      rintro e w3 ⟨rfl, hh3⟩
      obtain ⟨hc3, hf3⟩ := bcell hh3
      have hz3 := hh3.size
      try simp only [World.size_alloc] at hz3
      clear hc3 hf3
      go_wp2
      go_ret
      exact ⟨rfl, by (repeat (first | exact Below.refl _ _ | refine Below.setCell ?_ (by first | omega | (simp <;> omega)) _ | refine Below.alloc ?_ (by first | omega | (simp <;> omega)) _ | refine Below.drew ?_ | refine Below.trans ?_ (Below.mono (by assumption) (by first | omega | (simp <;> omega))) | refine Below.grown ?_ (by assumption) (by first | omega | (simp <;> omega)) (fun k e => by cases e; first | omega | (simp <;> omega))))⟩
end Go.Proofs.Ytlmlcbhllodncaa
namespace Go.Proofs.Ytlmlcbhllodncaa
open Go.RowKit
set_option maxHeartbeats 1000000 in
theorem fnExactColoursOk_walk (s d : Int) (w : World) (_ : (Lit.int .i64 s).wf = true) (_ : (Lit.int .i64 d).wf = true) :
    Calls Try.prog 10 #[.int .i64 s, .int .i64 d] w fun e w' => e = .returned (.bool true) ∧ Below w.heap.size w w' := by
  go_enter Try.func10, Try.ntmps10
  go_wp2_with fail
  refine (specColours_any s d _).mono ?_
  rintro e wx ⟨rfl, rfl⟩
  go_wp2_with fail
  refine (implColours_any s d _).mono ?_
  rintro e w1 ⟨rfl, hh1⟩
  obtain ⟨hc1, hf1⟩ := bcell hh1
  have hz1 := hh1.size
  try simp only [World.size_alloc] at hz1
  clear hc1 hf1
  go_wp2
  go_ret
  exact ⟨rfl, by (repeat (first | exact Below.refl _ _ | refine Below.setCell ?_ (by first | omega | (simp <;> omega)) _ | refine Below.alloc ?_ (by first | omega | (simp <;> omega)) _ | refine Below.drew ?_ | refine Below.trans ?_ (Below.mono (by assumption) (by first | omega | (simp <;> omega))) | refine Below.grown ?_ (by assumption) (by first | omega | (simp <;> omega)) (fun k e => by cases e; first | omega | (simp <;> omega))))⟩
set_option maxHeartbeats 1000000 in
theorem fnExactCountWays_walk (c s d : Int) (w : World) (_ : (Lit.int .i64 c).wf = true) (_ : (Lit.int .i64 s).wf = true) (_ : (Lit.int .i64 d).wf = true) :
    Calls Try.prog 12 #[.int .i64 c, .int .i64 s, .int .i64 d] w fun e w' => e = .returned (.bool true) ∧ Below w.heap.size w w' := by
  go_enter Try.func12, Try.ntmps12
  go_wp2_with fail
  refine (specCount_any c s d _).mono ?_
  rintro e wx ⟨rfl, rfl⟩
  go_wp2_with fail
  refine (implCount_any c s d _).mono ?_
  rintro e w1 ⟨rfl, hh1⟩
  obtain ⟨hc1, hf1⟩ := bcell hh1
  have hz1 := hh1.size
  try simp only [World.size_alloc] at hz1
  clear hc1 hf1
  go_wp2
  go_ret
  exact ⟨rfl, by (repeat (first | exact Below.refl _ _ | refine Below.setCell ?_ (by first | omega | (simp <;> omega)) _ | refine Below.alloc ?_ (by first | omega | (simp <;> omega)) _ | refine Below.drew ?_ | refine Below.trans ?_ (Below.mono (by assumption) (by first | omega | (simp <;> omega))) | refine Below.grown ?_ (by assumption) (by first | omega | (simp <;> omega)) (fun k e => by cases e; first | omega | (simp <;> omega))))⟩
set_option maxHeartbeats 1000000 in
theorem fnExactCountRings_walk (c s d : Int) (w : World) (_ : (Lit.int .i64 c).wf = true) (_ : (Lit.int .i64 s).wf = true) (_ : (Lit.int .i64 d).wf = true) :
    Calls Try.prog 13 #[.int .i64 c, .int .i64 s, .int .i64 d] w fun e w' => e = .returned (.bool true) ∧ Below w.heap.size w w' := by
  go_enter Try.func13, Try.ntmps13
  go_wp2_with fail
  refine (specRings_any c s d _).mono ?_
  rintro e wx ⟨rfl, rfl⟩
  go_wp2_with fail
  refine (implRings_any c s d _).mono ?_
  rintro e w1 ⟨rfl, hh1⟩
  obtain ⟨hc1, hf1⟩ := bcell hh1
  have hz1 := hh1.size
  try simp only [World.size_alloc] at hz1
  clear hc1 hf1
  go_wp2
  go_ret
  exact ⟨rfl, by (repeat (first | exact Below.refl _ _ | refine Below.setCell ?_ (by first | omega | (simp <;> omega)) _ | refine Below.alloc ?_ (by first | omega | (simp <;> omega)) _ | refine Below.drew ?_ | refine Below.trans ?_ (Below.mono (by assumption) (by first | omega | (simp <;> omega))) | refine Below.grown ?_ (by assumption) (by first | omega | (simp <;> omega)) (fun k e => by cases e; first | omega | (simp <;> omega))))⟩
set_option maxHeartbeats 1000000 in
theorem fnExactCountCut_walk (c b s d : Int) (w : World) (_ : (Lit.int .i64 c).wf = true) (_ : (Lit.int .i64 b).wf = true) (_ : (Lit.int .i64 s).wf = true) (_ : (Lit.int .i64 d).wf = true) :
    Calls Try.prog 16 #[.int .i64 c, .int .i64 b, .int .i64 s, .int .i64 d] w fun e w' => e = .returned (.bool true) ∧ Below w.heap.size w w' := by
  go_enter Try.func16, Try.ntmps16
  go_wp2_with fail
  refine (specCuts_any c b s d _).mono ?_
  rintro e wx ⟨rfl, rfl⟩
  go_wp2_with fail
  refine (implCuts_any c b s d _).mono ?_
  rintro e w1 ⟨rfl, hh1⟩
  obtain ⟨hc1, hf1⟩ := bcell hh1
  have hz1 := hh1.size
  try simp only [World.size_alloc] at hz1
  clear hc1 hf1
  go_wp2
  go_ret
  exact ⟨rfl, by (repeat (first | exact Below.refl _ _ | refine Below.setCell ?_ (by first | omega | (simp <;> omega)) _ | refine Below.alloc ?_ (by first | omega | (simp <;> omega)) _ | refine Below.drew ?_ | refine Below.trans ?_ (Below.mono (by assumption) (by first | omega | (simp <;> omega))) | refine Below.grown ?_ (by assumption) (by first | omega | (simp <;> omega)) (fun k e => by cases e; first | omega | (simp <;> omega))))⟩
set_option maxHeartbeats 1000000 in
theorem fnExactCellsOf_walk (s : ByteArray) (w : World) (_ : s.size ≤ maxLen) :
    Calls Try.prog 14 #[.string s] w fun e w' => e = .returned (.bool true) ∧ Below w.heap.size w w' := by
  by_cases hbig : 1048576 < s.size
  · go_enter Try.func14, Try.ntmps14
    go_wp2
    go_ret
    exact ⟨rfl, Below.refl _ _⟩
  · have hsm : s.size ≤ 1048576 := by omega
    have hsl : s.size ≤ 1048600 := by omega
    go_enter Try.func14, Try.ntmps14
    go_wp2_with fail
    refine (specCells_any s _ hsl).mono ?_
    rintro e wx ⟨rfl, rfl⟩
    go_wp2_with fail
    refine (implCells_any s _ hsl).mono ?_
    rintro e w1 ⟨rfl, hh1⟩
    obtain ⟨hc1, hf1⟩ := bcell hh1
    have hz1 := hh1.size
    try simp only [World.size_alloc] at hz1
    clear hc1 hf1
    go_wp2
    go_ret
    exact ⟨rfl, by (repeat (first | exact Below.refl _ _ | refine Below.setCell ?_ (by first | omega | (simp <;> omega)) _ | refine Below.alloc ?_ (by first | omega | (simp <;> omega)) _ | refine Below.drew ?_ | refine Below.trans ?_ (Below.mono (by assumption) (by first | omega | (simp <;> omega))) | refine Below.grown ?_ (by assumption) (by first | omega | (simp <;> omega)) (fun k e => by cases e; first | omega | (simp <;> omega))))⟩
set_option maxHeartbeats 1000000 in
theorem fnExactCutOk_walk (s : ByteArray) (c : Int) (w : World) (_ : s.size ≤ maxLen) (_ : (Lit.int .i64 c).wf = true) :
    Calls Try.prog 15 #[.string s, .int .i64 c] w fun e w' => e = .returned (.bool true) ∧ Below w.heap.size w w' := by
  by_cases hbig : 1048576 < s.size
  · go_enter Try.func15, Try.ntmps15
    go_wp2
    go_ret
    exact ⟨rfl, Below.refl _ _⟩
  · have hsm : s.size ≤ 1048576 := by omega
    have hsl : s.size ≤ 1048600 := by omega
    go_enter Try.func15, Try.ntmps15
    go_wp2_with fail
    refine (specCut_any s c _ hsl).mono ?_
    rintro e wx ⟨rfl, rfl⟩
    go_wp2_with fail
    refine (implCut_any s c _ hsl).mono ?_
    rintro e w1 ⟨rfl, hh1⟩
    obtain ⟨hc1, hf1⟩ := bcell hh1
    have hz1 := hh1.size
    try simp only [World.size_alloc] at hz1
    clear hc1 hf1
    go_wp2
    go_ret
    exact ⟨rfl, by (repeat (first | exact Below.refl _ _ | refine Below.setCell ?_ (by first | omega | (simp <;> omega)) _ | refine Below.alloc ?_ (by first | omega | (simp <;> omega)) _ | refine Below.drew ?_ | refine Below.trans ?_ (Below.mono (by assumption) (by first | omega | (simp <;> omega))) | refine Below.grown ?_ (by assumption) (by first | omega | (simp <;> omega)) (fun k e => by cases e; first | omega | (simp <;> omega))))⟩
theorem ways_len (c s d : Int) : (strB (waysL c s d)).length ≤ 200000 := by
  rw [strB, List.length_map]
  cases h : waysB c s d with
  | false => rw [waysL_no h]; simp
  | true =>
    have ht : tileB c s d = true := by rw [waysB, Bool.and_eq_true] at h; exact h.1
    obtain ⟨n, x, y, rfl, rfl, rfl, h0, h1, h2⟩ := tileB_true ht
    rw [waysL_is h, wayN_len]
    exact cntN_bd x (by omega) y (by omega) n (by omega)
set_option maxRecDepth 100000 in
set_option maxHeartbeats 4000000 in
theorem fnExactWaysOf_walk (c s d : Int) (w : World) (_ : (Lit.int .i64 c).wf = true) (_ : (Lit.int .i64 s).wf = true) (_ : (Lit.int .i64 d).wf = true) :
    Calls Try.prog 11 #[.int .i64 c, .int .i64 s, .int .i64 d] w fun e w' => e = .returned (.bool true) ∧ Below w.heap.size w w' := by
  have hN : (strB (waysL c s d)).length ≤ 1000000 := Nat.le_trans (ways_len c s d) (by omega)
  have hS := fun w => specWays_any c s d w
  have hI := fun w => implWays_any c s d w
  obtain ⟨L, hL⟩ : ∃ L, waysL c s d = L := ⟨_, rfl⟩
  rw [hL] at hN hS hI
  unfold StrsOf at hS hI
  obtain ⟨f, hf⟩ : ∃ f : Nat → ByteArray, (fun i => (strB L).getD i ⟨#[]⟩) = f := ⟨_, rfl⟩
  obtain ⟨n, hn⟩ : ∃ n, (strB L).length = n := ⟨_, rfl⟩
  rw [hn, hf] at hS hI
  rw [hn] at hN
  have HS := Lib.hid hS
  have HI := Lib.hid hI
  clear hL hf hn hS hI
  go_enter Try.func11, Try.ntmps11
  go_wp2_with fail
  refine (HS.out _).mono ?_
  rintro e w2 ⟨u2, rfl, hI2, hh2⟩
  have hz2 := hh2.size
  go_wp2_with fail
  refine (HI.out _).mono ?_
  rintro e w4 ⟨u4, rfl, hI4, hh4⟩
  have hz4 := hh4.size
  go_wp2_with fail
  refine (eqStringS_same _ _ _ _ _ _ _ _ _ hI4 (hI2.below (show Below w2.heap.size w2 w4 by (repeat (first | exact Below.refl _ _ | refine Below.setCell ?_ (by first | omega | (simp <;> omega)) _ | refine Below.alloc ?_ (by first | omega | (simp <;> omega)) _ | refine Below.drew ?_ | refine Below.trans ?_ (Below.mono (by assumption) (by first | omega | (simp <;> omega))) | refine Below.grown ?_ (by assumption) (by first | omega | (simp <;> omega)) (fun k e => by cases e; first | omega | (simp <;> omega))))) (Nat.le_refl _)) hN).mono ?_
  rintro e w5 ⟨rfl, hh5⟩
  have hz5 := hh5.size
  go_wp2_with fail
  refine (markStringS_any _ _ _ _ _ 1 _ (hI4.below (show Below w4.heap.size w4 w5 by exact hh5) (Nat.le_refl _)) hN (by omega) (by omega)).mono ?_
  rintro e w6 ⟨rfl, hI6, hM6⟩
  have hB6 : Below w2.heap.size w2 w6 := below_markedS (show Below w2.heap.size w2 w5 by (repeat (first | exact Below.refl _ _ | refine Below.setCell ?_ (by first | omega | (simp <;> omega)) _ | refine Below.alloc ?_ (by first | omega | (simp <;> omega)) _ | refine Below.drew ?_ | refine Below.trans ?_ (Below.mono (by assumption) (by first | omega | (simp <;> omega))) | refine Below.grown ?_ (by assumption) (by first | omega | (simp <;> omega)) (fun k e => by cases e; first | omega | (simp <;> omega))))) hM6 (Nat.le_refl _) (by omega)
  have hz6 : w5.heap.size ≤ w6.heap.size := by obtain ⟨_, hg, _⟩ := hM6; exact hg.size
  have hIb := (hI2.below (show Below w2.heap.size w2 w5 by (repeat (first | exact Below.refl _ _ | refine Below.setCell ?_ (by first | omega | (simp <;> omega)) _ | refine Below.alloc ?_ (by first | omega | (simp <;> omega)) _ | refine Below.drew ?_ | refine Below.trans ?_ (Below.mono (by assumption) (by first | omega | (simp <;> omega))) | refine Below.grown ?_ (by assumption) (by first | omega | (simp <;> omega)) (fun k e => by cases e; first | omega | (simp <;> omega))))) (Nat.le_refl _)).markedS hM6 (by omega)
  clear hM6
  go_wp2_with fail
  refine (heldStringS_any _ _ _ _ 1 _ hI6 hN (by omega) (by omega)).mono ?_
  rintro e w7 ⟨rfl, hh7⟩
  have hz7 := hh7.size
  go_wp2_with fail
  refine (HI.out _).mono ?_
  rintro e w8 ⟨u8, rfl, hI8, hh8⟩
  have hz8 := hh8.size
  go_wp2_with fail
  refine (eqStringS_same _ _ _ _ _ _ _ _ _ hI8 (hIb.below (show Below w6.heap.size w6 w8 by (repeat (first | exact Below.refl _ _ | refine Below.setCell ?_ (by first | omega | (simp <;> omega)) _ | refine Below.alloc ?_ (by first | omega | (simp <;> omega)) _ | refine Below.drew ?_ | refine Below.trans ?_ (Below.mono (by assumption) (by first | omega | (simp <;> omega))) | refine Below.grown ?_ (by assumption) (by first | omega | (simp <;> omega)) (fun k e => by cases e; first | omega | (simp <;> omega))))) (by omega)) hN).mono ?_
  rintro e w9 ⟨rfl, hh9⟩
  have hz9 := hh9.size
  go_wp2_with fail
  refine (heldStringS_any _ _ _ _ 1 _ (hI6.below (show Below w6.heap.size w6 w9 by (repeat (first | exact Below.refl _ _ | refine Below.setCell ?_ (by first | omega | (simp <;> omega)) _ | refine Below.alloc ?_ (by first | omega | (simp <;> omega)) _ | refine Below.drew ?_ | refine Below.trans ?_ (Below.mono (by assumption) (by first | omega | (simp <;> omega))) | refine Below.grown ?_ (by assumption) (by first | omega | (simp <;> omega)) (fun k e => by cases e; first | omega | (simp <;> omega))))) (by omega)) hN (by omega) (by omega)).mono ?_
  rintro e w10 ⟨rfl, hh10⟩
  have hz10 := hh10.size
  go_wp2
  go_ret
  exact ⟨rfl, by (repeat (first | exact Below.refl _ _ | refine Below.setCell ?_ (by first | omega | (simp <;> omega)) _ | refine Below.alloc ?_ (by first | omega | (simp <;> omega)) _ | refine Below.drew ?_ | refine Below.trans ?_ (Below.mono (by assumption) (by first | omega | (simp <;> omega))) | refine Below.grown ?_ (by assumption) (by first | omega | (simp <;> omega)) (fun k e => by cases e; first | omega | (simp <;> omega))))⟩
end Go.Proofs.Ytlmlcbhllodncaa
namespace Go.Proofs.Ytlmlcbhllodncaa
open Go.RowKit
theorem bytesL_append (a b : ByteArray) : bytesL (a ++ b) = bytesL a ++ bytesL b := by
  rw [bytesL, ByteArray.data_append, bytesL, bytesL, Array.toList_append]
theorem goodL_append (a b : List UInt8) : goodL (a ++ b) = (goodL a && goodL b) := by rw [goodL, List.all_append]; rfl
theorem cellsB_more {s t : ByteArray} (h : cellsB s = true) (ht : goodL (bytesL t) = true) (h7 : s.size + t.size ≤ 8) : cellsV (s ++ t) = cellsV s + (cellsL (bytesL t) : Int) ∧ cellsV (t ++ s) = cellsV s + (cellsL (bytesL t) : Int) := by
  have hg : goodL (bytesL s) = true := by rw [cellsB, Bool.and_eq_true] at h; exact h.1
  have b1 : cellsB (s ++ t) = true := by rw [cellsB, bytesL_append, goodL_append, hg, ht, ByteArray.size_append]; simp [h7]
  have b2 : cellsB (t ++ s) = true := by rw [cellsB, bytesL_append, goodL_append, hg, ht, ByteArray.size_append]; simp; omega
  rw [cellsV_is b1, cellsV_is b2, cellsV_is h, bytesL_append, bytesL_append, cellsL_append, cellsL_append]
  constructor <;> omega
theorem cellsL_zero : ∀ l, (cellsL l = 0) = (l = [])
  | [] => by simp [cellsL]
  | x :: l => by
    have : 1 ≤ cellsL (x :: l) := by rw [cellsL]; split <;> omega
    simp; omega
theorem empty_iff (s : ByteArray) (h : cellsB s = true) : ((cellsV s == 0) == (s.toList.isEmpty)) = true := by
  rw [cellsV_is h, show s.toList = bytesL s from bl_toList s]
  have e := cellsL_zero (bytesL s)
  by_cases hl : bytesL s = []
  · rw [hl]; rfl
  · have h1 : ¬ cellsL (bytesL s) = 0 := by rw [e]; exact hl
    have h2 : ((cellsL (bytesL s) : Int) == 0) = false := by rw [beq_eq_false_iff_ne]; omega
    have h3 : (bytesL s).isEmpty = false := by rw [List.isEmpty_eq_false_iff]; exact hl
    rw [h2]; show (false == (bytesL s).isEmpty) = true; rw [h3]; rfl
set_option maxRecDepth 100000 in
set_option maxHeartbeats 8000000 in
theorem fnCellsOf_walk (a : Option Addr) (len cap : Nat) (z : List Int) (w : World) (w0 : IsRow w a len cap z) :
    Calls Try.prog 7 #[.slice a len cap] w fun e w' => e = .returned (.bool true) ∧ Below w.heap.size w w' := by
  by_cases hbig : 1048576 < len
  · go_enter Try.func7, Try.ntmps7
    go_wp2
    go_ret
    exact ⟨rfl, Below.refl _ _⟩
  · have hsm : len ≤ 1048576 := by omega
    go_enter Try.func7, Try.ntmps7
    go_wp2_with fail
    refine (drawCellsOf_any _ _ _ _ z w0).mono ?_
    rintro e w1 ⟨s, rfl, hsz, hh1⟩
    have hz1 := hh1.size
    obtain ⟨hc1, hf1⟩ := bcell hh1
    have hsl : s.size ≤ 1048600 := by omega
    cases hb : cellsB s with
    | false =>
      have HV := Lib.hid (cellsV_no hb)
      clear hb
      go_wp2_with fail
      refine (implCells_is s (-1) _ hsl HV.out).mono ?_
      rintro e w2 ⟨rfl, hh2⟩
      obtain ⟨hc2, hf2⟩ := bcell hh2
      have hz2 := hh2.size
      try simp only [World.size_alloc] at hz2
      clear hc2 hf2
      go_wp2_with fail
      refine (specCells_is s (-1) _ hsl HV.out).mono ?_
      rintro e wx ⟨rfl, rfl⟩
      go_wp2_with fail
      refine (alive_any _).mono ?_
      rintro e w3 ⟨rfl, hh3⟩
      obtain ⟨hc3, hf3⟩ := bcell hh3
      have hz3 := hh3.size
      try simp only [World.size_alloc] at hz3
      clear hc3 hf3
      go_wp2
      go_ret
      exact ⟨rfl, by (repeat (first | exact Below.refl _ _ | refine Below.setCell ?_ (by first | omega | (simp <;> omega)) _ | refine Below.alloc ?_ (by first | omega | (simp <;> omega)) _ | refine Below.drew ?_ | refine Below.trans ?_ (Below.mono (by assumption) (by first | omega | (simp <;> omega))) | refine Below.grown ?_ (by assumption) (by first | omega | (simp <;> omega)) (fun k e => by cases e; first | omega | (simp <;> omega))))⟩
    | true =>
      have hV := cellsV_is hb
      have he := empty_iff s hb
      have h8 : s.size ≤ 8 := by rw [cellsB, Bool.and_eq_true, decide_eq_true_iff] at hb; exact hb.2
      have hm := fun h7 : s.size + 1 ≤ 8 => cellsB_more (t := ⟨#[97]⟩) hb (by decide) h7
      have hn := fun h7 : s.size + 1 ≤ 8 => cellsB_more (t := ⟨#[66]⟩) hb (by decide) h7
      obtain ⟨n, hn0⟩ : ∃ n, cellsL (bytesL s) = n := ⟨_, rfl⟩
      rw [hn0] at hV
      have hbd := cellsV_bd s
      rw [hV] at he hm hn hbd
      have n0 : (0 : Int) ≤ (n : Int) := by omega
      have HV := Lib.hid hV
      have HE := Lib.hid he
      have HM := Lib.hid hm
      have HN := Lib.hid hn
      have hcat1 : ¬ 9223372036854775807 < s.size + 1 := by omega
      have hcat2 : ¬ 9223372036854775807 < 1 + s.size := by omega
      clear hb hV he hm hn hn0
      go_wp2_with fail
      refine (implCells_is s n _ hsl HV.out).mono ?_
      rintro e w2 ⟨rfl, hh2⟩
      obtain ⟨hc2, hf2⟩ := bcell hh2
      have hz2 := hh2.size
      try simp only [World.size_alloc] at hz2
      clear hc2 hf2
      go_wp2_with fail
      refine (specCells_is s n _ hsl HV.out).mono ?_
      rintro e wx ⟨rfl, rfl⟩
      by_cases h7 : s.size < 8
      · have h7i : (s.size : Int) < 8 := by omega
        have HA := Lib.hid (show cellsV (s ++ ⟨#[97]⟩) = (n : Int) + 1 from (HM.out (by omega)).1)
        have HC := Lib.hid (show cellsV ((⟨#[66]⟩ : ByteArray) ++ s) = (n : Int) + 2 from (HN.out (by omega)).2)
        have hs1 : (s ++ ⟨#[97]⟩).size ≤ 1048600 := by rw [ByteArray.size_append]; show s.size + 1 ≤ _; omega
        have hs2 : ((⟨#[66]⟩ : ByteArray) ++ s).size ≤ 1048600 := by rw [ByteArray.size_append]; show 1 + s.size ≤ _; omega
        have HS1 := Lib.hid hs1
        have HS2 := Lib.hid hs2
        clear hs1 hs2 HM HN h7
        go_wp2_with fail
        refine (implCells_is _ ((n : Int) + 1) _ HS1.out HA.out).mono ?_
        rintro e w4 ⟨rfl, hh4⟩
        obtain ⟨hc4, hf4⟩ := bcell hh4
        have hz4 := hh4.size
        try simp only [World.size_alloc] at hz4
        clear hc4 hf4
        go_wp2_with fail
        refine (implCells_is _ ((n : Int) + 2) _ HS2.out HC.out).mono ?_
        rintro e w5 ⟨rfl, hh5⟩
        obtain ⟨hc5, hf5⟩ := bcell hh5
        have hz5 := hh5.size
        try simp only [World.size_alloc] at hz5
        clear hc5 hf5
        have he := HE.out
        go_wp2_with fail
        refine (alive_any _).mono ?_
        rintro e w6 ⟨rfl, hh6⟩
        obtain ⟨hc6, hf6⟩ := bcell hh6
        have hz6 := hh6.size
        try simp only [World.size_alloc] at hz6
        clear hc6 hf6
        go_wp2
        go_ret
        exact ⟨rfl, by (repeat (first | exact Below.refl _ _ | refine Below.setCell ?_ (by first | omega | (simp <;> omega)) _ | refine Below.alloc ?_ (by first | omega | (simp <;> omega)) _ | refine Below.drew ?_ | refine Below.trans ?_ (Below.mono (by assumption) (by first | omega | (simp <;> omega))) | refine Below.grown ?_ (by assumption) (by first | omega | (simp <;> omega)) (fun k e => by cases e; first | omega | (simp <;> omega))))⟩
      · have h7i : (8 : Int) ≤ (s.size : Int) := by omega
        clear HM HN h7
        have he := HE.out
        go_wp2_with fail
        refine (alive_any _).mono ?_
        rintro e w6 ⟨rfl, hh6⟩
        obtain ⟨hc6, hf6⟩ := bcell hh6
        have hz6 := hh6.size
        try simp only [World.size_alloc] at hz6
        clear hc6 hf6
        go_wp2
        go_ret
        exact ⟨rfl, by (repeat (first | exact Below.refl _ _ | refine Below.setCell ?_ (by first | omega | (simp <;> omega)) _ | refine Below.alloc ?_ (by first | omega | (simp <;> omega)) _ | refine Below.drew ?_ | refine Below.trans ?_ (Below.mono (by assumption) (by first | omega | (simp <;> omega))) | refine Below.grown ?_ (by assumption) (by first | omega | (simp <;> omega)) (fun k e => by cases e; first | omega | (simp <;> omega))))⟩
theorem cut_all {s : ByteArray} (h : cellsB s = true) : cutB s 0 = true ∧ cutB s (cellsV s) = true ∧ cutB s (cellsV s + 1) = false := by
  have hv := cellsV_is h
  rw [cutB, cutB, cutB, hv]
  refine ⟨?_, ?_, ?_⟩
  · rw [inB_mk (by omega) (by omega)]; exact cutL_zero _
  · rw [inB_mk (by omega) (by omega)]; exact cutL_all _
  · rw [inB_no (by omega)]; rfl
theorem cut_one {s : ByteArray} (h : cellsB s = true) (h0 : 0 < s.size) : cutB s 1 = decide (90 < ((s[0]'h0).toNat : Int)) := by
  have hv := cellsV_is h
  have hg : goodL (bytesL s) = true := by rw [cellsB, Bool.and_eq_true] at h; exact h.1
  have hd : bytesL s = s[0]'h0 :: (bytesL s).drop 1 := by have := drop_at (s := s) (k := 0) h0; rwa [List.drop_zero] at this
  have hc : 1 ≤ cellsL (bytesL s) := by rw [hd, cellsL]; split <;> omega
  have hx : isUp (s[0]'h0) = true ∨ isLow (s[0]'h0) = true := by
    rw [hd, goodL, List.all_cons, Bool.and_eq_true, Bool.or_eq_true] at hg; exact hg.1
  rw [cutB, hv, inB_mk (by omega) (by omega), Bool.true_and, show (1 : Int).toNat = 1 from rfl, hd]
  rcases hx with hx | hx
  · rw [cutL_up1 hx]
    simp only [isUp, Bool.and_eq_true, decide_eq_true_iff] at hx
    symm; simp; omega
  · rw [cutL_low (low_not_up _ hx), cutL_zero]
    simp only [isLow, Bool.and_eq_true, decide_eq_true_iff] at hx
    symm; simp; omega
set_option maxRecDepth 100000 in
set_option maxHeartbeats 8000000 in
theorem fnCutOk_walk (a : Option Addr) (len cap : Nat) (z : List Int) (w : World) (w0 : IsRow w a len cap z) :
    Calls Try.prog 8 #[.slice a len cap] w fun e w' => e = .returned (.bool true) ∧ Below w.heap.size w w' := by
  by_cases hbig : 1048576 < len
  · go_enter Try.func8, Try.ntmps8
    go_wp2
    go_ret
    exact ⟨rfl, Below.refl _ _⟩
  · have hsm : len ≤ 1048576 := by omega
    go_enter Try.func8, Try.ntmps8
    go_wp2_with fail
    refine (drawCutOk_any _ _ _ _ z w0).mono ?_
    rintro e w1 ⟨s, c, rfl, hsz, hh1⟩
    have hz1 := hh1.size
    obtain ⟨hc1, hf1⟩ := bcell hh1
    have hsl : s.size ≤ 1048600 := by omega
    obtain ⟨t, ht⟩ : ∃ t, cutB s c = t := ⟨_, rfl⟩
    have HT := Lib.hid ht
    cases hb : cellsB s with
    | false =>
      have hV := cellsV_no hb
      have htf : t = false := by
        rw [← ht, cutB, hV]
        rcases Int.lt_or_le c 0 with h | h
        · rw [inB_no (.inl h)]; rfl
        · rw [inB_no (.inr (by omega))]; rfl
      subst htf
      have HV := Lib.hid hV
      clear hb hV ht
      go_wp2_with fail
      refine (implCut_is s c _ _ hsl HT.out).mono ?_
      rintro e w2 ⟨rfl, hh2⟩
      obtain ⟨hc2, hf2⟩ := bcell hh2
      have hz2 := hh2.size
      try simp only [World.size_alloc] at hz2
      clear hc2 hf2
      go_wp2_with fail
      refine (specCut_is s c _ _ hsl HT.out).mono ?_
      rintro e wx ⟨rfl, rfl⟩
      go_wp2_with fail
      refine (specCells_is s (-1) _ hsl HV.out).mono ?_
      rintro e wx ⟨rfl, rfl⟩
      go_wp2_with fail
      refine (alive_any _).mono ?_
      rintro e w3 ⟨rfl, hh3⟩
      obtain ⟨hc3, hf3⟩ := bcell hh3
      have hz3 := hh3.size
      try simp only [World.size_alloc] at hz3
      clear hc3 hf3
      go_wp2
      go_ret
      exact ⟨rfl, by (repeat (first | exact Below.refl _ _ | refine Below.setCell ?_ (by first | omega | (simp <;> omega)) _ | refine Below.alloc ?_ (by first | omega | (simp <;> omega)) _ | refine Below.drew ?_ | refine Below.trans ?_ (Below.mono (by assumption) (by first | omega | (simp <;> omega))) | refine Below.grown ?_ (by assumption) (by first | omega | (simp <;> omega)) (fun k e => by cases e; first | omega | (simp <;> omega))))⟩
    | true =>
      obtain ⟨k1, k2, k3⟩ := cut_all hb
      have hV := cellsV_is hb
      have ho := fun h0 => cut_one hb h0
      have hz := cellsL_zero (bytesL s)
      have hlz : (bytesL s = []) = (s.size = 0) := by rw [← List.length_eq_zero_iff, bytesL_len]
      have hbd := cellsV_bd s
      obtain ⟨n, hn0⟩ : ∃ n, cellsL (bytesL s) = n := ⟨_, rfl⟩
      rw [hn0] at hV hz
      rw [hV] at k2 k3 hbd
      have n0 : (0 : Int) ≤ (n : Int) := by omega
      rw [hlz] at hz
      have HV := Lib.hid hV
      have K1 := Lib.hid k1
      have K2 := Lib.hid k2
      have K3 := Lib.hid k3
      have HO := Lib.hid ho
      have HZ := Lib.hid hz
      have htt : (t != t) = false := by simp
      clear hb hV ho hz hlz k1 k2 k3 hn0 ht
      by_cases hs0 : s.size = 0
      · have hnz : n = 0 := by rw [HZ.out]; exact hs0
        have hn1 : ((n : Int) == 0) = true := by rw [hnz]; rfl
        clear hnz hs0
        go_wp2_with fail
        refine (implCut_is s c t _ hsl HT.out).mono ?_
        rintro e w2 ⟨rfl, hh2⟩
        obtain ⟨hc2, hf2⟩ := bcell hh2
        have hz2 := hh2.size
        try simp only [World.size_alloc] at hz2
        clear hc2 hf2
        go_wp2_with fail
        refine (specCut_is s c t _ hsl HT.out).mono ?_
        rintro e wx ⟨rfl, rfl⟩
        go_wp2_with fail
        refine (specCells_is s n _ hsl HV.out).mono ?_
        rintro e wx ⟨rfl, rfl⟩
        have k1 := K1.out
        have k2 := K2.out
        have k3 := K3.out
        have U1 : IntKind.i64.wrap ((n : Int) + 1) = (n : Int) + 1 := by rw [IntKind.wrap_i64]; omega
        clear HO
        obtain ⟨S, hSd⟩ : ∃ S : World → Prop, (fun V => Below w2.heap.size w2 V) = S := ⟨_, rfl⟩
        have hkeep : ∀ V V' : World, S V → Below V.heap.size V V' → S V' := by rw [← hSd]; exact fun V V' h hb => h.trans (hb.mono h.size)
        have gkn : Nonempty (KeptBy S) := ⟨⟨w2.drew, by rw [← hSd]; exact (Below.refl _ _).drew⟩⟩
        go_wp2_with fail
        refine wp_region_kept (S := S) (by rw [← hSd]; exact (Below.refl _ _).drew) (by kernel_rfl) (by kernel_rfl) ?_
        repeat (go_big_quiet_step ((first | (go_at_call 37; with_reducible refine (implCut_is s 0 true _ hsl k1).mono ?_; rintro e w' ⟨rfl, hhw⟩; exact ⟨rfl, ⟨w', hkeep _ _ (KeptBy.ok _) hhw⟩, rfl⟩) | (go_at_call 37; with_reducible refine (implCut_is s n true _ hsl k2).mono ?_; rintro e w' ⟨rfl, hhw⟩; exact ⟨rfl, ⟨w', hkeep _ _ (KeptBy.ok _) hhw⟩, rfl⟩) | (go_at_call 37; with_reducible refine (implCut_is s ((n : Int) + 1) false _ hsl k3).mono ?_; rintro e w' ⟨rfl, hhw⟩; exact ⟨rfl, ⟨w', hkeep _ _ (KeptBy.ok _) hhw⟩, rfl⟩) | fail)))
        refine wpQuiet_nil ?_
        rintro z3 ⟨iz, hwz⟩
        have bz3 : Below w2.heap.size w2 z3 := by
          have this : S z3 := by rw [hwz]; exact iz.ok
          rw [← hSd] at this
          exact this
        clear hwz iz gkn hkeep hSd
        go_wp2
        go_ret
        exact ⟨rfl, by (repeat (first | exact Below.refl _ _ | refine Below.setCell ?_ (by first | omega | (simp <;> omega)) _ | refine Below.alloc ?_ (by first | omega | (simp <;> omega)) _ | refine Below.drew ?_ | refine Below.trans ?_ (Below.mono (by assumption) (by first | omega | (simp <;> omega))) | refine Below.grown ?_ (by assumption) (by first | omega | (simp <;> omega)) (fun k e => by cases e; first | omega | (simp <;> omega))))⟩
      · have hnz : ¬ n = 0 := by rw [HZ.out]; exact hs0
        have hn1 : ((n : Int) == 0) = false := by rw [beq_eq_false_iff_ne]; omega
        have hsp : 0 < s.size := by omega
        have hspi : (0 : Int) < (s.size : Int) := by omega
        have KO := Lib.hid (HO.out hsp)
        clear hnz hs0
        go_wp2_with fail
        refine (implCut_is s c t _ hsl HT.out).mono ?_
        rintro e w2 ⟨rfl, hh2⟩
        obtain ⟨hc2, hf2⟩ := bcell hh2
        have hz2 := hh2.size
        try simp only [World.size_alloc] at hz2
        clear hc2 hf2
        go_wp2_with fail
        refine (specCut_is s c t _ hsl HT.out).mono ?_
        rintro e wx ⟨rfl, rfl⟩
        go_wp2_with fail
        refine (specCells_is s n _ hsl HV.out).mono ?_
        rintro e wx ⟨rfl, rfl⟩
        have k1 := K1.out
        have k2 := K2.out
        have k3 := K3.out
        have k4 := KO.out
        have U1 : IntKind.i64.wrap ((n : Int) + 1) = (n : Int) + 1 := by rw [IntKind.wrap_i64]; omega
        clear HO
        obtain ⟨S, hSd⟩ : ∃ S : World → Prop, (fun V => Below w2.heap.size w2 V) = S := ⟨_, rfl⟩
        have hkeep : ∀ V V' : World, S V → Below V.heap.size V V' → S V' := by rw [← hSd]; exact fun V V' h hb => h.trans (hb.mono h.size)
        have gkn : Nonempty (KeptBy S) := ⟨⟨w2.drew, by rw [← hSd]; exact (Below.refl _ _).drew⟩⟩
        go_wp2_with fail
        refine wp_region_kept (S := S) (by rw [← hSd]; exact (Below.refl _ _).drew) (by kernel_rfl) (by kernel_rfl) ?_
        repeat (go_big_quiet_step ((first | (go_at_call 37; with_reducible refine (implCut_is s 0 true _ hsl k1).mono ?_; rintro e w' ⟨rfl, hhw⟩; exact ⟨rfl, ⟨w', hkeep _ _ (KeptBy.ok _) hhw⟩, rfl⟩) | (go_at_call 37; with_reducible refine (implCut_is s n true _ hsl k2).mono ?_; rintro e w' ⟨rfl, hhw⟩; exact ⟨rfl, ⟨w', hkeep _ _ (KeptBy.ok _) hhw⟩, rfl⟩) | (go_at_call 37; with_reducible refine (implCut_is s ((n : Int) + 1) false _ hsl k3).mono ?_; rintro e w' ⟨rfl, hhw⟩; exact ⟨rfl, ⟨w', hkeep _ _ (KeptBy.ok _) hhw⟩, rfl⟩) | (go_at_call 37; with_reducible refine (implCut_is s 1 _ _ hsl k4).mono ?_; rintro e w' ⟨rfl, hhw⟩; exact ⟨rfl, ⟨w', hkeep _ _ (KeptBy.ok _) hhw⟩, rfl⟩) | fail)))
        refine wpQuiet_nil ?_
        rintro z3 ⟨iz, hwz⟩
        have bz3 : Below w2.heap.size w2 z3 := by
          have this : S z3 := by rw [hwz]; exact iz.ok
          rw [← hSd] at this
          exact this
        clear hwz iz gkn hkeep hSd
        go_wp2
        go_ret
        exact ⟨rfl, by (repeat (first | exact Below.refl _ _ | refine Below.setCell ?_ (by first | omega | (simp <;> omega)) _ | refine Below.alloc ?_ (by first | omega | (simp <;> omega)) _ | refine Below.drew ?_ | refine Below.trans ?_ (Below.mono (by assumption) (by first | omega | (simp <;> omega))) | refine Below.grown ?_ (by assumption) (by first | omega | (simp <;> omega)) (fun k e => by cases e; first | omega | (simp <;> omega))))⟩
end Go.Proofs.Ytlmlcbhllodncaa
