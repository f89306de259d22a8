/- The program's search for two stations that contradict each other. -/
import Derived.Test.YtpkmojcppdogkaaGreatDoorCq
set_option linter.unusedVariables false
set_option linter.unusedSimpArgs false
namespace Go.Proofs.YtpkmojcppdogkaaGreatDoor
open Go.RowKit
theorem Frm.tail {w W : World} {bs : List (Nat × Obj)} {p : Nat × Obj} (h : Frm w (p :: bs) W) : Frm w bs W := h.less (fun q hq => List.mem_cons_of_mem _ hq)
set_option maxHeartbeats 1000000 in
theorem pairs_any (m : Mp) (A : Option Addr) (n c : Nat) (w : World) :
    Calls Tryz.prog 120 #[viewV m.wd m.rw m.sl (.slice A n c)] w fun e w' => ∃ B, e = .returned (Value.func (.func 150) #[] #[.pointer (some ⟨B, 0, none⟩)]) ∧ w'.heap[B]? = some (.cells #[.int .i64 m.wd, .int .i64 m.rw, .int .i64 m.sl, (.slice A n c), .int .i64 m.wd, .int .i64 m.rw] 87) ∧ w.heap.size ≤ B ∧ Below w.heap.size w w' := by
  go_enter Tryz.func120, Tryz.ntmps120
  go_wp2
  go_ret
  exact ⟨_, rfl, heap_new _ _ rfl, Nat.le_refl _, (Below.refl _ _).alloc (Nat.le_refl _) _⟩

set_option maxHeartbeats 4000000 in
set_option maxRecDepth 100000 in
theorem clash_agreed (m : Mp) (A : Option Addr) (c : Nat) (cs : List Sta) (w : World) (hs : Sane m cs) (hc : Stas w (.slice A cs.length c) cs) (hag : Agreed m cs) :
    Calls Tryz.prog 92 #[viewV m.wd m.rw m.sl (.slice A cs.length c)] w fun e w' => e = .returned (.tuple #[prV 0 0, .bool false]) ∧ Below w.heap.size w w' := by
  have HC0 := Lib.hid hc
  clear hc
  have HFI : Hid (∀ (B : Nat) (W : World), Stas W (.slice A cs.length c) cs → B < W.heap.size → W.heap[B]? = some (.cells #[.int .i64 m.wd, .int .i64 m.rw, .int .i64 m.sl, (.slice A cs.length c), .int .i64 m.wd, .int .i64 m.rw] 87) → Calls Tryz.prog 119 #[Value.func (.func 150) #[] #[.pointer (some ⟨B, 0, none⟩)], Value.func (.func 121) #[viewV m.wd m.rw m.sl (.slice A cs.length c)] #[]] W fun e w' => e = .returned (.tuple #[prV 0 0, .bool false]) ∧ Below W.heap.size W w') := Lib.hid (fun B W h1 h2 h3 => (first_in m A c cs B W hs h1 h2 h3).mono fun e w' ⟨hb, h⟩ => by
    rcases h with ⟨ha, he⟩ | ⟨i', j', hf', hl, he⟩
    · exact ⟨he, hb⟩
    · exact absurd hag hf'.not)
  have HR := Lib.hid (((Frm.nil w).add (.cells #[.int .i64 m.wd, .int .i64 m.rw, .int .i64 m.sl, (.slice A cs.length c), .int .i64 m.wd, .int .i64 m.rw] 87) rfl).add (k := w.heap.size + 1) (.cells #[.int .i64 0, .int .i64 0] 128) (by simp))
  have x0 := HR.out.cells (List.mem_cons_self ..)
  have x1 := HR.out.cells (List.mem_cons_of_mem _ (List.mem_cons_self ..))
  go_enter Tryz.func92, Tryz.ntmps92
  go_wp2_with fail
  go_region_held3 (fun w' => (∀ o, w'.cell? ⟨w.heap.size, o, none⟩ = #[Value.int .i64 m.wd, .int .i64 m.rw, .int .i64 m.sl, (.slice A cs.length c), .int .i64 m.wd, .int .i64 m.rw][o]?)) ((exact (fun hF : Frm w [(w.heap.size, (.cells #[.int .i64 m.wd, .int .i64 m.rw, .int .i64 m.sl, (.slice A cs.length c), .int .i64 m.wd, .int .i64 m.rw] 87))] _ => hF.cells (List.mem_cons_self ..)) (by (repeat (with_reducible first | exact HR.out.tail | apply Frm.drew | apply Frm.alloc | apply Frm.drewN | (refine Frm.set ?_ (by simp <;> omega) (by simp <;> omega) _)))))) (first | (go_at_call 120; refine (pairs_any m _ _ _ _).mono ?_; rintro e wa ⟨B, rfl, hvB, hBl, hba⟩; have HVB := Lib.hid hvB; have hBn : B ≠ w.heap.size + 1 := (by simp at hBl; omega); have HRq := Lib.hid (Frm.below (w := w) (bs := [(w.heap.size + 1, (.cells #[.int .i64 0, .int .i64 0] 128)), (w.heap.size, (.cells #[.int .i64 m.wd, .int .i64 m.rw, .int .i64 m.sl, (.slice A cs.length c), .int .i64 m.wd, .int .i64 m.rw] 87))]) (by (repeat (with_reducible first | exact HR.out | apply Frm.drew | apply Frm.alloc | apply Frm.drewN))) hba); clear HR; have HR := HRq; clear HRq hba hvB) | (go_at_call 119; refine (HFI.out _ _ (HC0.out.below (Frm.b (w := w) (bs := [(w.heap.size + 1, (.cells #[.int .i64 0, .int .i64 0] 128)), (w.heap.size, (.cells #[.int .i64 m.wd, .int .i64 m.rw, .int .i64 m.sl, (.slice A cs.length c), .int .i64 m.wd, .int .i64 m.rw] 87))]) (by (repeat (with_reducible first | exact HR.out | apply Frm.drew | apply Frm.alloc | apply Frm.drewN))))) ?_ ?_).mono ?_; exact (Array.getElem?_eq_some_iff.1 HVB.out).1; exact HVB.out; rintro e wb ⟨rfl, hbb⟩; have HRq := Lib.hid (Frm.below (w := w) (bs := [(w.heap.size + 1, (.cells #[.int .i64 0, .int .i64 0] 128)), (w.heap.size, (.cells #[.int .i64 m.wd, .int .i64 m.rw, .int .i64 m.sl, (.slice A cs.length c), .int .i64 m.wd, .int .i64 m.rw] 87))]) (by (repeat (with_reducible first | exact HR.out | apply Frm.drew | apply Frm.alloc | apply Frm.drewN))) hbb); clear HR; have HR := HRq; clear HRq hbb; have bc := HR.out.cells (List.mem_cons_self ..); have bf := HR.out.free (List.mem_cons_self ..); have bl := HR.out.lt (List.mem_cons_self ..)))
  all_goals
    go_wp2_with fail
    have hF := (Frm.put (Frm.put HR.out (by omega) (by simp <;> omega) 0 (.int .i64 0)) (by omega) (by simp <;> omega) 1 (.int .i64 0))
    have u0 := hF.cells (List.mem_cons_self ..)
    exact bodyPost_ret (v := .tuple #[prV 0 0, .bool false]) (by simp [results, Tryz.results92, go_sem, u0]) rfl ⟨rfl, hF.b⟩

set_option maxHeartbeats 4000000 in
set_option maxRecDepth 100000 in
theorem clash_first (m : Mp) (A : Option Addr) (c : Nat) (cs : List Sta) (w : World) (hs : Sane m cs) (hc : Stas w (.slice A cs.length c) cs) {i j : Nat} (hf : First m cs i j) :
    Calls Tryz.prog 92 #[viewV m.wd m.rw m.sl (.slice A cs.length c)] w fun e w' => e = .returned (.tuple #[prV i j, .bool true]) ∧ Below w.heap.size w w' := by
  have HC0 := Lib.hid hc
  clear hc
  have HFI : Hid (∀ (B : Nat) (W : World), Stas W (.slice A cs.length c) cs → B < W.heap.size → W.heap[B]? = some (.cells #[.int .i64 m.wd, .int .i64 m.rw, .int .i64 m.sl, (.slice A cs.length c), .int .i64 m.wd, .int .i64 m.rw] 87) → Calls Tryz.prog 119 #[Value.func (.func 150) #[] #[.pointer (some ⟨B, 0, none⟩)], Value.func (.func 121) #[viewV m.wd m.rw m.sl (.slice A cs.length c)] #[]] W fun e w' => e = .returned (.tuple #[prV i j, .bool true]) ∧ Below W.heap.size W w') := Lib.hid (fun B W h1 h2 h3 => (first_in m A c cs B W hs h1 h2 h3).mono fun e w' ⟨hb, h⟩ => by
    rcases h with ⟨ha, he⟩ | ⟨i', j', hf', hl, he⟩
    · exact absurd ha hf.not
    · obtain ⟨rfl, rfl⟩ := hf.uniq hf'
      exact ⟨he, hb⟩)
  have HR := Lib.hid (((Frm.nil w).add (.cells #[.int .i64 m.wd, .int .i64 m.rw, .int .i64 m.sl, (.slice A cs.length c), .int .i64 m.wd, .int .i64 m.rw] 87) rfl).add (k := w.heap.size + 1) (.cells #[.int .i64 0, .int .i64 0] 128) (by simp))
  have x0 := HR.out.cells (List.mem_cons_self ..)
  have x1 := HR.out.cells (List.mem_cons_of_mem _ (List.mem_cons_self ..))
  go_enter Tryz.func92, Tryz.ntmps92
  go_wp2_with fail
  go_region_held3 (fun w' => (∀ o, w'.cell? ⟨w.heap.size, o, none⟩ = #[Value.int .i64 m.wd, .int .i64 m.rw, .int .i64 m.sl, (.slice A cs.length c), .int .i64 m.wd, .int .i64 m.rw][o]?)) ((exact (fun hF : Frm w [(w.heap.size, (.cells #[.int .i64 m.wd, .int .i64 m.rw, .int .i64 m.sl, (.slice A cs.length c), .int .i64 m.wd, .int .i64 m.rw] 87))] _ => hF.cells (List.mem_cons_self ..)) (by (repeat (with_reducible first | exact HR.out.tail | apply Frm.drew | apply Frm.alloc | apply Frm.drewN | (refine Frm.set ?_ (by simp <;> omega) (by simp <;> omega) _)))))) (first | (go_at_call 120; refine (pairs_any m _ _ _ _).mono ?_; rintro e wa ⟨B, rfl, hvB, hBl, hba⟩; have HVB := Lib.hid hvB; have hBn : B ≠ w.heap.size + 1 := (by simp at hBl; omega); have HRq := Lib.hid (Frm.below (w := w) (bs := [(w.heap.size + 1, (.cells #[.int .i64 0, .int .i64 0] 128)), (w.heap.size, (.cells #[.int .i64 m.wd, .int .i64 m.rw, .int .i64 m.sl, (.slice A cs.length c), .int .i64 m.wd, .int .i64 m.rw] 87))]) (by (repeat (with_reducible first | exact HR.out | apply Frm.drew | apply Frm.alloc | apply Frm.drewN))) hba); clear HR; have HR := HRq; clear HRq hba hvB) | (go_at_call 119; refine (HFI.out _ _ (HC0.out.below (Frm.b (w := w) (bs := [(w.heap.size + 1, (.cells #[.int .i64 0, .int .i64 0] 128)), (w.heap.size, (.cells #[.int .i64 m.wd, .int .i64 m.rw, .int .i64 m.sl, (.slice A cs.length c), .int .i64 m.wd, .int .i64 m.rw] 87))]) (by (repeat (with_reducible first | exact HR.out | apply Frm.drew | apply Frm.alloc | apply Frm.drewN))))) ?_ ?_).mono ?_; exact (Array.getElem?_eq_some_iff.1 HVB.out).1; exact HVB.out; rintro e wb ⟨rfl, hbb⟩; have HRq := Lib.hid (Frm.below (w := w) (bs := [(w.heap.size + 1, (.cells #[.int .i64 0, .int .i64 0] 128)), (w.heap.size, (.cells #[.int .i64 m.wd, .int .i64 m.rw, .int .i64 m.sl, (.slice A cs.length c), .int .i64 m.wd, .int .i64 m.rw] 87))]) (by (repeat (with_reducible first | exact HR.out | apply Frm.drew | apply Frm.alloc | apply Frm.drewN))) hbb); clear HR; have HR := HRq; clear HRq hbb; have bc := HR.out.cells (List.mem_cons_self ..); have bf := HR.out.free (List.mem_cons_self ..); have bl := HR.out.lt (List.mem_cons_self ..)))
  all_goals
    go_wp2_with fail
    have hF := (Frm.put (Frm.put HR.out (by omega) (by simp <;> omega) 0 (.int .i64 i)) (by omega) (by simp <;> omega) 1 (.int .i64 j))
    have u0 := hF.cells (List.mem_cons_self ..)
    exact bodyPost_ret (v := .tuple #[prV i j, .bool true]) (by simp [results, Tryz.results92, go_sem, u0]) rfl ⟨rfl, hF.b⟩
end Go.Proofs.YtpkmojcppdogkaaGreatDoor
