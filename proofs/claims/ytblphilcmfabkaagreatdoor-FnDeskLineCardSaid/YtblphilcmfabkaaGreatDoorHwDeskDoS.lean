/- Contracts and laws that the statement's proof stands on, one text behind the other. -/
import Derived.Test.YtblphilcmfabkaaGreatDoorAla1

namespace Go.Proofs.YtblphilcmfabkaaGreatDoor
open Go.RowKit
def DidS (d : DeskN) (x : DeedN) (w : World) (e : Ending) (w' : World) : Prop :=
 ∃ a c, e = .returned (.tuple #[.agg #[.int .i64 (doR d x).1.now.1, .int .i64 (doR d x).1.now.2, .slice a (doR d x).1.past.length c], .bool (doR d x).2]) ∧ IsPairs w.heap.size w'.heap.size w' (.slice a (doR d x).1.past.length c) (doR d x).1.past ∧
   (d.past.length < 8 → w'.ownsRow w.heap.size 29 2 (.slice a (doR d x).1.past.length c) (doR d x).1.past.length (pairCells (doR d x).1.past)) ∧ Below w.heap.size w w'
theorem DidS.same {d : DeskN} {x : DeedN} {w w' : World} {a : Option Addr} {c : Nat} (hd : deskN d = true) (h : doN d x = (d, false)) (hown : w'.ownsRow w.heap.size 29 2 (.slice a d.past.length c) d.past.length (pairCells d.past)) (hb : Below w.heap.size w w') :
   DidS d x w (.returned (.tuple #[.agg #[.int .i64 d.now.1, .int .i64 d.now.2, .slice a d.past.length c], .bool false])) w' := by
 have e : doR d x = (d, false) := (doR_yes hd).trans h
 refine ⟨a, c, by rw [e], ?_, fun _ => ?_, hb⟩
 · rw [e]; exact IsPairs.of_owns hown
 · rw [e]; exact hown
set_option maxHeartbeats 2000000 in
theorem specDo_no (B C : Nat) (p q k x y : Int) (L : List (Int × Int)) (v : Value) (w : World) (h : IsPairs B C w v L) (hn : L.length ≤ 1048600) (hd : deskN ⟨(p, q), L⟩ = false) :
   Calls Tryz.prog 63 #[.agg #[.int .i64 p, .int .i64 q, v], .agg #[.int .i64 k, .int .i64 x, .int .i64 y]] w (DidS ⟨(p, q), L⟩ ⟨k, x, y⟩ w) := by
 obtain ⟨a, cap, rfl, hC, _⟩ := id h
 have H := Lib.hid h
 have HD := Lib.hid hd
 clear h hd
 go_enter Tryz.func63, Tryz.ntmps63
 go_wp2_with fail
 refine (specDeskOk_any B C p q L _ _ (H.out.below (show Below w.heap.size w _ by (repeat (first | exact Below.refl _ _ | refine Below.alloc ?_ zo _))) hC) hn).mono ?_
 rintro e w1 ⟨rfl, hb1⟩
 obtain ⟨hc1, hf1⟩ := bcell hb1
 have hz1 := hb1.size
 simp at hz1
 have hz2 : w.heap.size + 1 + 1 < w1.heap.size := by omega
 have HB1 := Lib.hid (show Below w.heap.size w w1 by (repeat (first | exact Below.refl _ _ | refine Below.alloc ?_ zo _ | refine Below.trans ?_ (Below.mono (by assumption) zo))))
 rw [HD.out]
 clear hb1
 go_wp2_with fail
 refine bodyPost_ret (v := .tuple #[.agg #[.int .i64 0, .int .i64 0, .slice none 0 0], .bool false]) (by simp [results, Tryz.results63, go_sem]; go_simp) rfl ?_
 unfold DidS
 rw [doR_no HD.out]
 refine ⟨none, 0, rfl, IsPairs.mono (IsPairs.empty w.heap.size _ none 0) (Nat.le_refl _) (Nat.le_refl _) (Nat.le_refl _), fun _ => World.ownsRow_nil _ _ _ _, ?_⟩
 exact (((HB1.out.setCell zs _).setCell zs _).setCell zs _)
end Go.Proofs.YtblphilcmfabkaaGreatDoor
