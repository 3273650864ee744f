/- Contracts and laws that the statement's proof stands on, one text behind the other. -/
import Derived.Test.YtlmlcbhllodncaaAll0a
import Derived.Orders
import Derived.Great.Frames
import Derived.WalkKit
import Derived.Laws.IdiomStrings
import Derived.Deep.RegionHeld3

namespace Go.Proofs.Ytlmlcbhllodncaa
open Go.RowKit
variable {F G : Fence} {n : Nat} {P : Program} {md : Region.Mode}
/-- t operations from place i on come up one after the other, and then nothing. -/
def tailSeq (md : Region.Mode) (ops : Array Oper) : Nat → Nat → Array Bool → Bool
  | 0, _, listed => (Region.ready md ops listed).isEmpty
  | t + 1, i, listed => (Region.ready md ops listed == [i]) && tailSeq md ops t (i + 1) (listed.setIfInBounds i true)
/-- However the first m operations are drawn (f of them are to come), the t others come behind them. -/
def tailed (md : Region.Mode) (ops : Array Oper) (m t : Nat) : Nat → Array Bool → Bool
  | 0, listed => tailSeq md ops t m listed
  | f + 1, listed => !(Region.ready md ops listed).isEmpty && (Region.ready md ops listed).all fun i => decide (i < m) && tailed md ops m t f (listed.setIfInBounds i true)
theorem any_of_tail {ops : Array Oper} {Q : Exit → Act → World → Prop} : ∀ (T : List Oper) (i : Nat) (listed : Array Bool) (a : Act) (w : World), (∀ j, j < T.length → ops[i + j]? = T[j]?) → tailSeq md ops T.length i listed = true →
    wpListIn G n P ops Q T a w → wpAnyIn G n P md ops Q T.length listed a w
  | [], i, listed, a, w, _, hT, h => by
    rw [List.length_nil, tailSeq, List.isEmpty_iff] at hT
    exact ⟨hT, h⟩
  | o :: T, i, listed, a, w, hi, hT, h => by
    rw [List.length_cons, tailSeq, Bool.and_eq_true, beq_iff_eq] at hT
    obtain ⟨hr, hT⟩ := hT
    have h0 : ops[i]? = some o := hi 0 (by simp)
    have hi' : ∀ j, j < T.length → ops[i + 1 + j]? = T[j]? := fun j hj => by
      have := hi (j + 1) (by simp; omega)
      rw [show i + (j + 1) = i + 1 + j by omega] at this
      simpa using this
    refine ⟨fun h0 => (by rw [hr] at h0; cases h0), fun j hj => ?_⟩
    rw [hr, List.mem_singleton] at hj
    subst hj
    unfold wpOpIn
    rw [h0]
    simp only [wpListIn] at h
    simp only
    split
    · rename_i hw
      rw [if_pos hw] at h
      exact Oper.wpIn_mono (fun a' w' h' => any_of_tail T _ _ a' w' hi' hT h') h
    · rename_i hw
      rw [if_neg hw] at h
      exact ⟨h.1, any_of_tail T _ _ _ _ hi' hT h.2⟩
/-- No operation is guarded. -/
def noGuard (L : List Oper) : Bool := L.all fun o => o.guard.isNone
theorem tail_ready {L T : List Oper} {listed listedL : Array Bool} {i : Nat} (hl : ∀ j (d : Bool), j < L.length → listedL.getD j d = listed.getD j d) (hT : ∀ j, L.length ≤ j → listedL.getD j false = false ∧ listed.getD j false = false) (him : i < L.length) (h : i ∈ Region.ready md (L ++ T).toArray listed) : i ∈ Region.ready md L.toArray listedL := by
  unfold Region.ready at h ⊢
  rw [List.mem_filter] at h ⊢
  refine ⟨by simpa using him, ?_⟩
  have h2 := h.2
  have e : (L ++ T).toArray[i]? = L.toArray[i]? := by simp [List.getElem?_append_left him]
  rw [e] at h2
  rw [hl i true him]
  simp only [Bool.and_eq_true] at h2 ⊢
  refine ⟨h2.1, ?_⟩
  have h3 := h2.2
  cases ho : L.toArray[i]? with
  | none => rw [ho] at h3; simp at h3
  | some o =>
    rw [ho] at h3
    simp only [Option.map_some, Option.getD_some] at h3 ⊢
    rw [Array.all_eq_true] at h3 ⊢
    intro k hk
    have h4 := h3 k hk
    rw [Bool.or_eq_true] at h4 ⊢
    rcases h4 with h4 | h4
    · exact .inl h4
    · right
      rcases Nat.lt_or_ge (o.after[k]).on L.length with hlt | hge
      · rw [hl _ _ hlt]; exact h4
      · rw [(hT _ hge).2] at h4; cases h4
theorem tail_op {L T : List Oper} {C : World → Prop} {K : Act → Prop} {i : Nat} {a : Act} (hg : noGuard L = true) (him : i < L.length) (h : qOpIn F n P L.toArray C i K a) : qOpIn F n P (L ++ T).toArray C i K a := by
  have e : (L ++ T).toArray[i]? = L.toArray[i]? := by simp [List.getElem?_append_left him]
  have e0 : L.toArray[i]? = some (L[i]'him) := by simp [him]
  have hgo : (L[i]'him).guard = none := Option.isNone_iff_eq_none.1 (List.all_eq_true.1 hg _ (List.getElem_mem him))
  unfold qOpIn at h ⊢
  rw [e0] at h
  rw [e, e0]
  have hw : ∀ f, Region.wanted (L[i]'him) f = true := fun f => by unfold Region.wanted; rw [hgo]
  simp only [hw, if_true] at h ⊢
  exact h
theorem set_getD (l : Array Bool) (i j : Nat) (b d : Bool) (h : i < l.size) : (l.setIfInBounds i b).getD j d = if i = j then b else l.getD j d := by
  rw [Array.getD_eq_getD_getElem?, Array.getElem?_setIfInBounds]
  split
  · rename_i e; subst e; simp
  · simp
theorem any_of_quiet_tail {L T : List Oper} {C : World → Prop} {Q : Exit → Act → World → Prop} (hro : F.round = none) (hg : noGuard L = true)
    (hconv : ∀ (i : Nat) (K : Act → World → Prop) (a : Act) (w : World), wpOpIn F n P (L ++ T).toArray Q i K a w → wpOpIn G n P (L ++ T).toArray Q i K a w) :
    ∀ (f : Nat) (listed listedL : Array Bool) (a : Act) (w : World), listed.size = L.length + T.length → listedL.size = L.length → (∀ j (d : Bool), j < L.length → listedL.getD j d = listed.getD j d) → (∀ j, L.length ≤ j → listedL.getD j false = false ∧ listed.getD j false = false) →
      C w → tailed md (L ++ T).toArray L.length T.length f listed = true → wpAnyQIn F n P md L.toArray C (fun a' => ∀ w', C w' → wpListIn G n P (L ++ T).toArray Q T a' w') f listedL a →
      wpAnyIn G n P md (L ++ T).toArray Q (f + T.length) listed a w
  | 0, listed, listedL, a, w, _, _, _, _, hC, hT, hq => by
    rw [Nat.zero_add]
    exact any_of_tail T L.length listed a w (fun j hj => by rw [List.getElem?_toArray, List.getElem?_append_right (by omega), Nat.add_sub_cancel_left]) hT (hq.2 w hC)
  | f + 1, listed, listedL, a, w, hs, hsL, hl, hlt, hC, hT, hq => by
    rw [show f + 1 + T.length = (f + T.length) + 1 by omega]
    simp only [tailed, Bool.and_eq_true, Bool.not_eq_true'] at hT
    obtain ⟨hne, hall⟩ := hT
    refine ⟨fun h0 => (by rw [h0] at hne; cases hne), fun i hi => ?_⟩
    have hTi := List.all_eq_true.1 hall i hi
    rw [Bool.and_eq_true, decide_eq_true_iff] at hTi
    obtain ⟨him, hTi⟩ := hTi
    have hqi := tail_op (T := T) hg him (hq.2 i (tail_ready hl hlt him hi))
    refine hconv _ _ _ _ (wpOpIn_mono (K := fun a' w' => C w' ∧ wpAnyQIn F n P md L.toArray C (fun a' => ∀ w', C w' → wpListIn G n P (L ++ T).toArray Q T a' w') f (listedL.setIfInBounds i true) a') (fun a' w' hk => ?_) (wpOpIn_of_qOpIn hro hC (fun a' w' hw' hk => ⟨hw', hk⟩) hqi))
    refine any_of_quiet_tail hro hg hconv f _ _ a' w' (by simp [hs]) (by simp [hsL]) (fun j d hj => ?_) (fun j hj => ?_) hk.1 hTi hk.2
    · rw [set_getD _ _ _ _ _ (by omega), set_getD _ _ _ _ _ (by omega), hl j d hj]
    · rw [set_getD _ _ _ _ _ (by omega), set_getD _ _ _ _ _ (by omega), if_neg (by omega), if_neg (by omega)]
      exact hlt j hj
theorem wpIn_region_tail_any {S : World → Prop} {id : Nat} {Q : Exit → Act → World → Prop} {a : Act} {w : World} {L T : List Oper} (hro : F.round = none)
    (hconv : ∀ (i : Nat) (K : Act → World → Prop) (a : Act) (w : World), wpOpIn F n P (L ++ T).toArray Q i K a w → wpOpIn G n P (L ++ T).toArray Q i K a w) (hS : S w.drew) (hm : P.follows .mixedOrders = true) (hg : noGuard L = true)
    (hB : Region.lexB .any L.toArray = true) (hT : tailed .any (L ++ T).toArray L.length T.length L.length (Array.replicate (L.length + T.length) false) = true)
    (h : wpQuietIn F n P L.toArray (fun w' => ∃ i : KeptBy S, w' = i.world) (fun a' => ∀ w', (∃ i : KeptBy S, w' = i.world) → wpListIn G n P (L ++ T).toArray Q T a' w') L a) : (Code.region id (L ++ T).toArray true).wpIn G n P Q a w := by
  refine wpIn_region_any hm ?_
  simp only [Region.lexB, Bool.and_eq_true] at hB
  have hq := wpAnyQIn_lex (F := F) (n := n) (C := fun w' => ∃ i : KeptBy S, w' = i.world) (md := .any) hB.1 L 0 (Array.replicate L.toArray.size false) a (by simp) (by simpa using hB.2) h
  have := any_of_quiet_tail (G := G) (md := .any) (C := fun w' => ∃ i : KeptBy S, w' = i.world) (Q := Q) hro hg hconv L.length (Array.replicate (L.length + T.length) false) (Array.replicate L.toArray.size false) a w.drew (by simp) (by simp)
    (fun j d hj => by rw [Array.getD_eq_getD_getElem?, Array.getD_eq_getD_getElem?, Array.getElem?_replicate, Array.getElem?_replicate, if_pos (by simpa using hj), if_pos (by omega)]) (fun j hj => by rw [Array.getD_eq_getD_getElem?, Array.getD_eq_getD_getElem?, Array.getElem?_replicate, Array.getElem?_replicate]; constructor <;> split <;> rfl) (⟨⟨w.drew, hS⟩, rfl⟩ : ∃ i : KeptBy S, w.drew = i.world) hT hq
  have hsz : (L ++ T).toArray.size = L.length + T.length := by simp
  rw [hsz]
  exact this
/-- At place m the tail begins. -/
theorem wpIn_region_tail {S : World → Prop} {id : Nat} (m : Nat) {Q : Exit → Act → World → Prop} {a : Act} {w : World} {os : List Oper} (hro : F.round = none) (hS : S w.drew) (hm : P.follows .mixedOrders = true) (hg : noGuard (os.take m) = true)
    (hB : Region.lexB .any (os.take m).toArray = true) (hT : tailed .any os.toArray (os.take m).length (os.drop m).length (os.take m).length (Array.replicate os.length false) = true)
    (h : wpQuietIn F n P (os.take m).toArray (fun w' => ∃ i : KeptBy S, w' = i.world) (fun a' => ∀ w', (∃ i : KeptBy S, w' = i.world) → wpListIn F n P os.toArray Q (os.drop m) a' w') (os.take m) a) : (Code.region id os.toArray true).wpIn F n P Q a w := by
  have e := List.take_append_drop m os
  have el : (os.take m).length + (os.drop m).length = os.length := by rw [← List.length_append, e]
  have := wpIn_region_tail_any (F := F) (G := F) (n := n) (P := P) (id := id) (Q := Q) (a := a) (w := w) (L := os.take m) (T := os.drop m) hro (fun _ _ _ _ h => h) hS hm hg hB (by rw [e, el]; exact hT) (by rw [e]; exact h)
  rwa [e] at this
/-- The same within a round. -/
theorem wpIn_region_tail_round {S : World → Prop} {id r : Nat} (m : Nat) {Q : Exit → Act → World → Prop} {a : Act} {w : World} {os : List Oper} (hro : F.round = none) (hnd : noDefer os.toArray = true) (hS : S w.drew) (hm : P.follows .mixedOrders = true) (hg : noGuard (os.take m) = true)
    (hB : Region.lexB .any (os.take m).toArray = true) (hT : tailed .any os.toArray (os.take m).length (os.drop m).length (os.take m).length (Array.replicate os.length false) = true)
    (h : wpQuietIn F n P (os.take m).toArray (fun w' => ∃ i : KeptBy S, w' = i.world) (fun a' => ∀ w', (∃ i : KeptBy S, w' = i.world) → wpListIn (F.inRound r) n P os.toArray Q (os.drop m) a' w') (os.take m) a) : (Code.region id os.toArray true).wpIn (F.inRound r) n P Q a w := by
  have e := List.take_append_drop m os
  have el : (os.take m).length + (os.drop m).length = os.length := by rw [← List.length_append, e]
  have := wpIn_region_tail_any (F := F) (G := F.inRound r) (n := n) (P := P) (id := id) (Q := Q) (a := a) (w := w) (L := os.take m) (T := os.drop m) hro (fun _ _ _ _ h => wpOpIn_round hro (by rw [e]; exact hnd) h) hS hm hg hB (by rw [e, el]; exact hT) (by rw [e]; exact h)
  rwa [e] at this
end Go.Proofs.Ytlmlcbhllodncaa
namespace Go.Proofs.Ytlmlcbhllodncaa
open Go.RowKit
variable {P : Program} {ops : Array Oper} {Q : Exit → Act → World → Prop} {md : Region.Mode}
/-- What the slots hold: those that no operation writes are as they were; that of each operation that has come up is as it promises. -/
def Slots (ops : Array Oper) (a0 : Act) (PP : Nat → Value → World → Prop) (listed : Array Bool) (a : Act) (w : World) : Prop :=
  a.defers = a0.defers ∧ a.tmps.size = a0.tmps.size ∧ (∀ t, (∀ (i : Nat) (o : Oper), ops[i]? = some o → o.dst ≠ some t) → a.eval (.tmp t) = a0.eval (.tmp t)) ∧
  (∀ (i : Nat) (o : Oper) (d : Nat), ops[i]? = some o → o.dst = some d → listed.getD i false = true → PP i (a.eval (.tmp d)) w)
theorem getD_set_self {l : Array Bool} {i : Nat} (h : l.getD i true = false) : (l.setIfInBounds i true).getD i false = true := by
  rcases Nat.lt_or_ge i l.size with h1 | h1
  · simp [Array.getD_eq_getD_getElem?, h1]
  · simp [Array.getD_eq_getD_getElem?, Array.getElem?_eq_none h1] at h
theorem getD_set_other {l : Array Bool} {i j : Nat} (x : Bool) (h : i ≠ j) : (l.setIfInBounds i true).getD j x = l.getD j x := by
  simp [Array.getD_eq_getD_getElem?, Array.getElem?_setIfInBounds_ne h]
theorem Slots.put {a0 a : Act} {PP : Nat → Value → World → Prop} {listed : Array Bool} {w w' : World} {i : Nat} {o : Oper} {d : Nat} {v : Value}
    (h : Slots ops a0 PP listed a w) (hi : ops[i]? = some o) (hd : o.dst = some d) (hl : listed.getD i true = false) (hb : d < a0.tmps.size)
    (hdis : ∀ (i j : Nat) (oi oj : Oper) (d : Nat), ops[i]? = some oi → ops[j]? = some oj → oi.dst = some d → oj.dst = some d → i = j)
    (hmono : ∀ j u, PP j u w → PP j u w') (hv : PP i v w') : Slots ops a0 PP (listed.setIfInBounds i true) (a.put (some d) v) w' := by
  obtain ⟨h1, h2, h3, h4⟩ := h
  refine ⟨h1, by simpa [Act.put] using h2, fun t ht => ?_, fun j oj dj hj hdj hlj => ?_⟩
  · rw [Act.eval_put_ne _ _ _ _ (fun e => ht i o hi (by rw [hd, e]))]; exact h3 t ht
  · by_cases hij : j = i
    · subst hij
      rw [hi] at hj
      cases hj
      rw [hd] at hdj
      cases hdj
      rw [Act.eval_put_same _ _ _ (by rw [h2]; exact hb)]
      exact hv
    · rw [Act.eval_put_ne _ _ _ _ (fun e => hij (hdis j i oj o dj hj hi hdj (by rw [hd, e])))]
      rw [getD_set_other _ (fun e => hij e.symm)] at hlj
      exact hmono _ _ (h4 j oj dj hj hdj hlj)
theorem wpAny_slots {a0 : Act} {PP : Nat → Value → World → Prop} {Grow : World → World → Prop} {G : Array Bool → World → Prop}
    (hdis : ∀ (i j : Nat) (oi oj : Oper) (d : Nat), ops[i]? = some oi → ops[j]? = some oj → oi.dst = some d → oj.dst = some d → i = j)
    (hb : ∀ (i : Nat) (o : Oper) (d : Nat), ops[i]? = some o → o.dst = some d → d < a0.tmps.size)
    (hmono : ∀ j u w w', Grow w w' → PP j u w → PP j u w')
    (hstep : ∀ (i : Nat) (o : Oper), ops[i]? = some o → ∀ listed a w, Slots ops a0 PP listed a w → G listed w → (∀ e ∈ o.after, Region.binds md e = true → listed.getD e.on false = true) → listed.getD i true = false →
      wpOp P ops Q i (fun a' w' => ∃ v d, o.dst = some d ∧ a' = a.put (some d) v ∧ PP i v w' ∧ Grow w w' ∧ G (listed.setIfInBounds i true) w') a w)
    (hend : ∀ listed a w, (∀ i, i < ops.size → listed.getD i false = true) → Slots ops a0 PP listed a w → G listed w → Q .normal a w) :
    ∀ fuel listed a w, listed.size = ops.size → listed.toList.count false ≤ fuel → (Region.ready md ops listed = [] → ∀ i, i < ops.size → listed.getD i false = true) →
      (∀ l : Array Bool, l.size = ops.size → Region.ready md ops l = [] → ∀ i, i < ops.size → l.getD i false = true) →
      Slots ops a0 PP listed a w → G listed w → wpAny P md ops Q fuel listed a w
  | 0, listed, a, w, hs, hc, hr0, hr, hS, hG => by
    have hall : ∀ i, i < ops.size → listed.getD i false = true := fun i hi => by
      have h0 : listed.toList.count false = 0 := by omega
      rw [List.count_eq_zero] at h0
      have hi' : i < listed.size := by omega
      have e : listed.getD i false = listed[i] := by simp [Array.getD_eq_getD_getElem?, hi']
      rw [e]
      cases hx : listed[i] with
      | true => rfl
      | false => exact absurd (by rw [← hx]; simp) h0
    refine ⟨?_, hend _ _ _ hall hS hG⟩
    rw [List.eq_nil_iff_forall_not_mem]
    intro i hi
    obtain ⟨h1, o, ho, _⟩ := mem_ready.1 hi
    have hi' : i < ops.size := (Array.getElem?_eq_some_iff.1 ho).1
    have h2 := hall i hi'
    have hil : i < listed.size := by omega
    simp [Array.getD_eq_getD_getElem?, hil] at h1 h2
    rw [h1] at h2; cases h2
  | fuel + 1, listed, a, w, hs, hc, hr0, hr, hS, hG => by
    refine ⟨fun h => hend _ _ _ (hr0 h) hS hG, fun i hi => ?_⟩
    obtain ⟨h1, o, ho, hall⟩ := mem_ready.1 hi
    refine wpOp_mono ?_ (hstep i o ho listed a w hS hG hall h1)
    rintro a' w' ⟨v, d, hd, rfl, hv, hg, hG'⟩
    have hil : i < listed.size := by rw [hs]; exact (Array.getElem?_eq_some_iff.1 ho).1
    refine wpAny_slots hdis hb hmono hstep hend fuel _ _ _ (by simpa using hs) ?_ (hr _ (by simpa using hs)) hr (hS.put ho hd h1 (hb i o d ho hd) hdis (fun j u => hmono j u w w' hg) hv) hG'
    have e : listed[i] = false := by simpa [Array.getD_eq_getD_getElem?, hil] using h1
    rw [Array.toList_setIfInBounds, List.count_set (by simpa using hil)]
    have : 0 < listed.toList.count false := List.count_pos_iff.2 (by rw [← e]; simp)
    rw [if_pos (by simp [e]), if_neg (by simp)]
    omega
theorem op_value {i : Nat} {o : Oper} {v : Value} {a : Act} {w w' : World} {K : Act → World → Prop} (hi : ops[i]? = some o) (hg : o.guard = none) (hv : ∀ ev : Operand → Value, (∀ t, ev (.tmp t) = a.eval (.tmp t)) → (∀ c, ev (.const c) = c) → (∀ f, ev (.func f) = .func (.func f) #[] #[]) → (execOp ev o).run P w = .ok (.value v) w') (hk : K (a.put o.dst v) w') : wpOp P ops Q i K a w := by
  unfold wpOp
  simp only [hi]
  rw [if_pos (by simp [Region.wanted, hg])]
  left
  unfold Oper.wp
  rw [hv a.eval (fun _ => rfl) (fun _ => rfl) (fun _ => rfl)]; exact hk
theorem op_enter {i : Nat} {o : Oper} {f : FuncId} {args : Array Value} {a : Act} {w w' : World} {K : Act → World → Prop} (hi : ops[i]? = some o) (hg : o.guard = none) (hv : ∀ ev : Operand → Value, (∀ t, ev (.tmp t) = a.eval (.tmp t)) → (∀ c, ev (.const c) = c) → (∀ f, ev (.func f) = .func (.func f) #[] #[]) → (execOp ev o).run P w = .ok (.enter f args) w')
    (hk : Calls P f args w' fun e w'' => ∃ v, e = .returned v ∧ K (a.put o.dst v) w'') : wpOp P ops Q i K a w := by
  unfold wpOp
  simp only [hi]
  rw [if_pos (by simp [Region.wanted, hg])]
  left
  unfold Oper.wp
  rw [hv a.eval (fun _ => rfl) (fun _ => rfl) (fun _ => rfl)]
  refine Calls.mono hk ?_
  rintro e w'' ⟨v, rfl, h⟩
  exact h
/-- Does any order end with all listed? (an edge leads back, never forward) -/
theorem ready_all (h : ∀ (i : Nat) (o : Oper), ops[i]? = some o → ∀ e ∈ o.after, Region.binds md e = true → e.on < i) (l : Array Bool) (hl : l.size = ops.size) (hr : Region.ready md ops l = []) : ∀ i, i < ops.size → l.getD i false = true := by
  intro i
  induction i using Nat.strongRecOn with
  | ind i ih =>
    intro hi
    cases hx : l.getD i false with
    | true => rfl
    | false =>
      exfalso
      have hil : i < l.size := by omega
      have ho : ops[i]? = some ops[i] := by simp [hi]
      have hm : i ∈ Region.ready md ops l := mem_ready.2 ⟨by simpa [Array.getD_eq_getD_getElem?, hil] using hx, ops[i], ho, fun e he hbd => ih e.on (h i _ ho e he hbd) (by have := h i _ ho e he hbd; omega)⟩
      rw [hr] at hm; cases hm
/-- **The region by its slots.** -/
theorem wp_region_slots {id : Nat} {a0 : Act} {w : World} {PP : Nat → Value → World → Prop} {Grow : World → World → Prop} {G : Array Bool → World → Prop} (hm : P.follows .mixedOrders = true)
    (hdis : ∀ (i j : Nat) (oi oj : Oper) (d : Nat), ops[i]? = some oi → ops[j]? = some oj → oi.dst = some d → oj.dst = some d → i = j)
    (hb : ∀ (i : Nat) (o : Oper) (d : Nat), ops[i]? = some o → o.dst = some d → d < a0.tmps.size) (hback : ∀ (i : Nat) (o : Oper), ops[i]? = some o → ∀ e ∈ o.after, Region.binds .any e = true → e.on < i)
    (hmono : ∀ j u w w', Grow w w' → PP j u w → PP j u w') (hG0 : G (Array.replicate ops.size false) { w with drawn := w.drawn + 1 })
    (hstep : ∀ (i : Nat) (o : Oper), ops[i]? = some o → ∀ listed a w, Slots ops a0 PP listed a w → G listed w → (∀ e ∈ o.after, Region.binds .any e = true → listed.getD e.on false = true) → listed.getD i true = false →
      wpOp P ops Q i (fun a' w' => ∃ v d, o.dst = some d ∧ a' = a.put (some d) v ∧ PP i v w' ∧ Grow w w' ∧ G (listed.setIfInBounds i true) w') a w)
    (hend : ∀ listed a w, (∀ i, i < ops.size → listed.getD i false = true) → Slots ops a0 PP listed a w → G listed w → Q .normal a w) : (Code.region id ops true).wp P Q a0 w := by
  have hr := fun l hl => ready_all (md := .any) hback l hl
  refine wp_region_any hm (wpAny_slots (md := .any) hdis hb hmono hstep hend _ _ _ _ (by simp) (by simp) (hr _ (by simp)) hr ⟨rfl, rfl, fun _ _ => rfl, fun i o d _ _ h => ?_⟩ hG0)
  simp [Array.getD_eq_getD_getElem?, Array.getElem?_replicate] at h
  split at h <;> simp at h
def okDis (ops : Array Oper) : Bool := decide ((ops.toList.map fun o => o.dst).Nodup)
def okB (ops : Array Oper) (n : Nat) : Bool := ops.toList.all fun o => match o.dst with | some d => decide (d < n) | none => true
def okBack (ops : Array Oper) : Bool := (List.range ops.size).all fun i => match ops[i]? with | some o => o.after.toList.all fun e => !Region.binds .any e || decide (e.on < i) | none => true
def noDst (ops : Array Oper) (t : Nat) : Bool := ops.toList.all fun o => o.dst != some t
theorem dis_of (h : okDis ops = true) : ∀ (i j : Nat) (oi oj : Oper) (d : Nat), ops[i]? = some oi → ops[j]? = some oj → oi.dst = some d → oj.dst = some d → i = j := by
  intro i j oi oj d hi hj hd hdj
  have hn : (ops.toList.map fun o => o.dst).Nodup := by simpa [okDis] using h
  have e1 : (ops.toList.map fun o => o.dst)[i]? = some (some d) := by simp [hi, hd]
  have e2 : (ops.toList.map fun o => o.dst)[j]? = some (some d) := by simp [hj, hdj]
  obtain ⟨h1, e1⟩ := List.getElem?_eq_some_iff.1 e1
  obtain ⟨h2, e2⟩ := List.getElem?_eq_some_iff.1 e2
  rcases Nat.lt_trichotomy i j with h3 | h3 | h3
  · exact absurd (e1.trans e2.symm) (List.pairwise_iff_getElem.1 hn i j h1 h2 h3)
  · exact h3
  · exact absurd (e2.trans e1.symm) (List.pairwise_iff_getElem.1 hn j i h2 h1 h3)
theorem b_of {n : Nat} (h : okB ops n = true) : ∀ (i : Nat) (o : Oper) (d : Nat), ops[i]? = some o → o.dst = some d → d < n := by
  intro i o d hi hd
  rw [okB, List.all_eq_true] at h
  have := h o (by obtain ⟨h1, e⟩ := Array.getElem?_eq_some_iff.1 hi; rw [← e]; simp)
  rw [hd] at this
  simpa using this
theorem back_of (h : okBack ops = true) : ∀ (i : Nat) (o : Oper), ops[i]? = some o → ∀ e ∈ o.after, Region.binds .any e = true → e.on < i := by
  intro i o hi e he hbd
  rw [okBack, List.all_eq_true] at h
  have h2 := h i (List.mem_range.2 (Array.getElem?_eq_some_iff.1 hi).1)
  rw [hi] at h2
  simp only [List.all_eq_true] at h2
  simpa [hbd] using h2 e (by simpa using he)
theorem noDst_of {t : Nat} (h : noDst ops t = true) : ∀ (i : Nat) (o : Oper), ops[i]? = some o → o.dst ≠ some t := by
  intro i o hi e
  rw [noDst, List.all_eq_true] at h
  have := h o (by obtain ⟨h1, e⟩ := Array.getElem?_eq_some_iff.1 hi; rw [← e]; simp)
  rw [e] at this
  simp at this
end Go.Proofs.Ytlmlcbhllodncaa
namespace Go.Proofs.Ytlmlcbhllodncaa
open Go.RowKit
def WayDrawn (w : World) (R k : Nat) (e : Ending) (w' : World) : Prop := ∃ s : ByteArray, e = .returned (.string s) ∧ s.size ≤ 100 ∧ Rd w' R (k + 8) ∧ w.grownBy w' (some R)
def wayS (v : Int) : ByteArray := if v = 0 then ⟨#[97]⟩ else if v = 1 then ⟨#[98]⟩ else if v = 2 then ⟨#[65]⟩ else if v = 3 then ⟨#[65]⟩ else if v = 4 then ⟨#[67]⟩ else ⟨#[99]⟩
theorem wayS_get (v : Int) (h0 : 0 ≤ v) (h1 : v ≤ 5) : (#[.string ⟨#[97]⟩, .string ⟨#[98]⟩, .string ⟨#[65]⟩, .string ⟨#[65]⟩, .string ⟨#[67]⟩, .string ⟨#[99]⟩] : Array Value)[v.toNat]? = some (.string (wayS v)) := by
  rcases (show v = 0 ∨ v = 1 ∨ v = 2 ∨ v = 3 ∨ v = 4 ∨ v = 5 by omega) with e | e | e | e | e | e <;> simp [wayS, e]
theorem wayS_size (v : Int) : (wayS v).size ≤ 9 := by
  unfold wayS
  repeat (first | decide | split)
def badS (v : Int) : ByteArray := if v = 0 then ⟨#[120]⟩ else if v = 1 then ⟨#[100]⟩ else ⟨#[97, 97, 97, 97, 97, 97, 97, 97, 97]⟩
theorem badS_get (v : Int) (h0 : 0 ≤ v) (h1 : v ≤ 2) : (#[.string ⟨#[120]⟩, .string ⟨#[100]⟩, .string ⟨#[97, 97, 97, 97, 97, 97, 97, 97, 97]⟩] : Array Value)[v.toNat]? = some (.string (badS v)) := by
  rcases (show v = 0 ∨ v = 1 ∨ v = 2 by omega) with e | e | e <;> simp [badS, e]
theorem badS_size (v : Int) : (badS v).size ≤ 9 := by
  unfold badS
  repeat (first | decide | split)
set_option maxRecDepth 100000 in
set_option maxHeartbeats 8000000 in
theorem l20Way_any (R k : Nat) (n : Int) (w : World) (h : Rd w R k) (hk : k ≤ 900000) (hn : n ≤ 1000000) :
    Calls Try.prog 58 #[.pointer (some ⟨R, 0, none⟩), .int .i64 n] w (WayDrawn w R k) := by
  have hRlt := h.lt
  go_enter Try.func58, Try.ntmps58
  go_wp2_with fail
  refine (pick_any R k 6 _ h (by omega) (by omega)).mono ?_
  rintro e w1 ⟨v1, rfl, va1, vb1, hR1, hh1⟩
  have vc1 : v1 ≤ 5 := by omega
  have hz1 := hh1.size
  clear vb1
  obtain ⟨m, rfl⟩ := Int.eq_ofNat_of_zero_le va1
  have HH1 := Lib.hid hh1
  clear hh1
  go_wp2_with fail
  go_loopw [5, 6] (fun x y wr => ∃ (s : ByteArray) (j : Nat), x = .string s ∧ y = .int .i64 j ∧ j ≤ m ∧ s.size ≤ 9 * (m - j) ∧ Rd wr R (k + 1 + (m - j)) ∧ w.heap.size ≤ wr.heap.size ∧ w.grownBy wr (some R)) (fun _ y _ => (intOf y).toNat)
  case atStart => exact ⟨⟨#[]⟩, m, rfl, rfl, Nat.le_refl _, Nat.zero_le _, by rw [Nat.sub_self]; exact hR1, hz1, HH1.out⟩
  case round =>
    obtain ⟨s, j, rfl, rfl, hj, hs, hRr, hzr, hg⟩ := hrel
    by_cases hj0 : 0 < j
    · have hji : (0 : Int) < (j : Int) := by omega
      have HG := Lib.hid hg
      have hRl := hRr.lt
      clear hg
      go_wp2_with fail
      refine (pick_any R (k + 1 + (m - j)) 6 _ (hRr.alloc _) (by omega) (by omega)).mono ?_
      rintro e w3 ⟨v3, rfl, va3, vb3, hR3, hh3⟩
      have vc3 : v3 ≤ 5 := by omega
      have vd3 : v3 < 6 := by omega
      clear vb3
      obtain ⟨hc3, hf3⟩ := gcell hh3
      have hz3 := hh3.size
      try simp only [World.size_alloc] at hz3
      have hcl3 : w3.cell? ⟨wr.heap.size, v3.toNat, none⟩ = some (.string (wayS v3)) := (hc3 _ _ (by simp) (by omega)).trans ((World.cell?_alloc_mark _ _ _ _ _).trans (wayS_get v3 va3 vc3))
      have hps3 := wayS_size v3
      clear hc3 hf3
      have hcat : ¬ 9223372036854775807 < s.size + (wayS v3).size := by omega
      have HG3 := Lib.hid (gr_trans (gr_alloc HG.out _) hh3)
      have HR3 := Lib.hid (hR3.mono (show k + 1 + (m - j) + 1 ≤ k + 1 + (m - (j - 1)) by omega))
      clear hh3 hR3
      go_wp2
      go_roundw
      case rel => exact ⟨s ++ wayS v3, j - 1, rfl, congrArg (Value.int .i64) (by omega), by omega, by rw [ByteArray.size_append]; omega, HR3.out, by omega, HG3.out⟩
      case measure => simp [intOf]; omega
    · obtain rfl : j = 0 := by omega
      have HG := Lib.hid hg
      clear hg
      go_wp2_with fail
      refine (odd_any R (k + 1 + (m - 0)) n _ hRr (by omega) hn).mono ?_
      rintro e w4 ⟨b, rfl, hR4, hh4⟩
      have hz4 := hh4.size
      have HG4 := Lib.hid (gr_trans HG.out hh4)
      clear hh4
      cases b with
      | true =>
        have hRl := hR4.lt
        go_wp2_with fail
        refine (pick_any R (k + 1 + (m - 0) + 1) 3 _ (hR4.alloc _) (by omega) (by omega)).mono ?_
        rintro e w5 ⟨v5, rfl, va5, vb5, hR5, hh5⟩
        have vc5 : v5 ≤ 2 := by omega
        have vd5 : v5 < 3 := by omega
        clear vb5
        obtain ⟨hc5, hf5⟩ := gcell hh5
        have hz5 := hh5.size
        try simp only [World.size_alloc] at hz5
        have hcl5 : w5.cell? ⟨w4.heap.size, v5.toNat, none⟩ = some (.string (badS v5)) := (hc5 _ _ (by simp) (by omega)).trans ((World.cell?_alloc_mark _ _ _ _ _).trans (badS_get v5 va5 vc5))
        have hps5 := badS_size v5
        clear hc5 hf5
        have hcat : ¬ 9223372036854775807 < s.size + (badS v5).size := by omega
        have HG5 := Lib.hid (gr_trans (gr_alloc HG4.out _) hh5)
        clear hh5
        go_wp2
        go_ret
        exact ⟨_, rfl, by rw [ByteArray.size_append]; omega, hR5.mono (by omega), HG5.out⟩
      | false =>
        go_wp2
        go_ret
        exact ⟨_, rfl, by omega, hR4.mono (by omega), HG4.out⟩
end Go.Proofs.Ytlmlcbhllodncaa
namespace Go.Proofs.Ytlmlcbhllodncaa
open Go.RowKit
end Go.Proofs.Ytlmlcbhllodncaa
namespace Go.Proofs.Ytlmlcbhllodncaa
open Go.RowKit
set_option maxHeartbeats 4000000 in
theorem heldStringS_any (B C n : Nat) (v : Value) (k0 : Nat) (w : World) (h : IsStrs B C w v n (fun i => markT (k0 + i))) (hn : n ≤ 1000000) (hk : 1 ≤ k0) (hk1 : k0 ≤ 1000000) :
    Calls Try.prog 44 #[v, .int .i64 k0] w fun e w' => e = .returned (.int .i64 ((k0 + n : Nat) : Int)) ∧ Below w.heap.size w w' := by
  obtain ⟨a, ca, rfl, hC, hs⟩ := h
  go_enter Try.func44, Try.ntmps44
  go_wp2_with fail
  go_loopw [1, 5] (fun x y wr => ∃ i : Nat, i ≤ n ∧ x = .int .i64 ((k0 + i : Nat) : Int) ∧ y = .int .i64 i ∧ Below w.heap.size w wr) (fun _ y _ => n - (intOf y).toNat)
  case atStart => exact ⟨0, Nat.zero_le _, by simp, rfl, Below.refl _ _⟩
  case round =>
    obtain ⟨i, hi, rfl, rfl, hB⟩ := hrel
    by_cases hlt : i < n
    · rcases hs with rfl | ⟨g, off, rfl, h1, h2, hc, hf⟩
      · omega
      have c1 : wr.cell? ⟨g, off + i, none⟩ = some (.string (markT (k0 + i))) := (hB.cell (p := ⟨g, off + i, none⟩) (by show g < _; omega)).trans (hc i hlt)
      have hii : (i : Int) < (n : Int) := by omega
      have i0 : (0 : Int) ≤ (i : Int) := by omega
      obtain ⟨K, hK⟩ : ∃ K, k0 + i = K := ⟨_, rfl⟩
      have HK := Lib.hid hK
      have hK1 : 1 ≤ K := by omega
      have hK2 : K < 10000000000 := by omega
      rw [hK] at c1 ⊢
      have HB := Lib.hid hB
      have hbz := hB.size
      clear hK hc hf hB
      obtain ⟨S, hSd⟩ : ∃ S : World → Prop, (fun V => Below wr.heap.size wr V) = S := ⟨_, rfl⟩
      have hkeep : ∀ V V' : World, S V → Below V.heap.size V V' → S V' := by rw [← hSd]; exact fun V V' h hb => h.trans (hb.mono h.size)
      have gk0 : ∀ iq : KeptBy S, iq.world.cell? ⟨g, off + i, none⟩ = some (.string (markT K)) := by rw [← hSd]; exact fun iq => cell_below iq.ok c1
      have gkn : Nonempty (KeptBy S) := ⟨⟨wr.drew, by rw [← hSd]; exact (Below.refl _ _).drew⟩⟩
      go_wp2_with fail
      refine wp_region_kept (S := S) (by rw [← hSd]; exact (Below.refl _ _).drew) (by kernel_rfl) (by kernel_rfl) ?_
      repeat (go_big_quiet_step ((first | (go_at_call 59; refine (markText_any K _ hK1 hK2).mono ?_; rintro e w' ⟨rfl, hhw⟩; exact ⟨rfl, ⟨w', hkeep _ _ (KeptBy.ok _) hhw⟩, rfl⟩) | fail)))
      refine wpQuiet_nil ?_
      rintro z3 ⟨iz, hwz⟩
      have bz3 : Below wr.heap.size wr z3 := by
        have this : S z3 := by rw [hwz]; exact iz.ok
        rw [← hSd] at this
        exact this
      clear hwz iz gkn hkeep hSd gk0
      have HBz := Lib.hid (HB.out.trans (bz3.mono hbz))
      clear bz3
      go_wp2
      go_roundw
      case rel => exact ⟨i + 1, by omega, congrArg (Value.int .i64) (by have := HK.out; omega), congrArg (Value.int .i64) (by omega), HBz.out⟩
      case measure => simp [intOf]; omega
    · obtain rfl : i = n := by omega
      clear hs
      go_wp2
      go_ret
      exact ⟨rfl, hB⟩
end Go.Proofs.Ytlmlcbhllodncaa
namespace Go.Proofs.Ytlmlcbhllodncaa
open Go.RowKit
theorem bl_size (a : ByteArray) : a.data.toList.length = a.size := by rw [Array.length_toList]; rfl
theorem bl_loop (a : ByteArray) : ∀ (n i : Nat) (r : List UInt8), a.size - i = n → ByteArray.toList.loop a i r = r.reverse ++ a.data.toList.drop i := by
  intro n
  induction n with
  | zero =>
    intro i r h
    rw [ByteArray.toList.loop]
    have h1 : ¬ i < a.size := by omega
    have h2 : a.data.toList.length ≤ i := by rw [bl_size]; omega
    rw [if_neg h1, List.drop_eq_nil_of_le h2, List.append_nil]
  | succ n ih =>
    intro i r h
    rw [ByteArray.toList.loop]
    have h1 : i < a.size := by omega
    rw [if_pos h1, ih (i + 1) _ (by omega)]
    have h2 : i < a.data.toList.length := by rw [bl_size]; exact h1
    have h3 : i < a.data.size := h1
    have e : a.get! i = a.data.toList[i] := by
      rw [Array.getElem_toList]
      exact getElem!_pos a.data i h3
    rw [List.drop_eq_getElem_cons h2, e, List.reverse_cons, List.append_assoc]
    rfl
theorem bl_toList (a : ByteArray) : a.toList = a.data.toList := by
  rw [ByteArray.toList, bl_loop a a.size 0 [] (by omega)]; rfl
theorem bl_eq (a b : ByteArray) : (a.toList == b.toList) = (a.data.toList == b.data.toList) := by rw [bl_toList, bl_toList]
end Go.Proofs.Ytlmlcbhllodncaa
