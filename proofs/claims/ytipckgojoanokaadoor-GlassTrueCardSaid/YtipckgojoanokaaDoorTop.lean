/- The functions Check, Index, Clash and Know of the program. -/
import Derived.Test.YtipckgojoanokaaDoorKn
set_option linter.unusedVariables false
set_option linter.unusedSimpArgs false
namespace Go.Proofs.YtipckgojoanokaaDoor
open Go.RowKit Go.Maps

/-- The value of a station, and the slice of its comparisons. -/
theorem Chks.shape {w : World} {v : Value} {cs : List Chk} (h : Chks w v cs) : ∃ A n c, v = .slice A n c := h.elim fun A h => h.elim fun c h => ⟨A, _, c, h.1⟩
@[reducible] def stBox (s : Stn) (v : Value) : Obj := .cells #[.int .i64 s.hl, .int .i64 s.hh, .int .i64 s.gl, .int .i64 s.gh, .int .i64 s.dr, .int .i64 s.rd, .int .i64 s.ea, .int .i64 s.sl, v] 26

set_option maxHeartbeats 400000 in
theorem check_ok {s : Stn} {v : Value} {cs : List Chk} {w : World} (hc : Chks w v cs) (h : soundB s cs = true) :
    Calls Tryd.prog 17 #[stV s v] w fun x w' => x = .returned (.int .i64 0) ∧ Below w.heap.size w w' := by
  have hc1 : Chks (w.alloc (stBox s v)) v cs := hc.below ((Below.refl _ _).alloc (Nat.le_refl _) _)
  go_enter Tryd.func17, Tryd.ntmps17
  go_wp2_with (go_at_call 48; refine (soundStation_any hc1).mono ?_; rintro x w1 ⟨rfl, hb1⟩)
  go_ret
  exact ⟨rfl, ((Below.refl _ _).alloc (Nat.le_refl _) _).trans (hb1.mono (by simp))⟩

set_option maxHeartbeats 400000 in
theorem check_bad {s : Stn} {v : Value} {cs : List Chk} {w : World} (hc : Chks w v cs) (h : soundB s cs = false) :
    Calls Tryd.prog 17 #[stV s v] w fun x w' => x = .returned (.int .i64 2) ∧ Below w.heap.size w w' := by
  have hc1 : Chks (w.alloc (stBox s v)) v cs := hc.below ((Below.refl _ _).alloc (Nat.le_refl _) _)
  go_enter Tryd.func17, Tryd.ntmps17
  go_wp2_with (go_at_call 48; refine (soundStation_any hc1).mono ?_; rintro x w1 ⟨rfl, hb1⟩)
  go_ret
  exact ⟨rfl, ((Below.refl _ _).alloc (Nat.le_refl _) _).trans (hb1.mono (by simp))⟩

set_option maxHeartbeats 400000 in
theorem glassClash_bad {s : Stn} {v : Value} {cs : List Chk} {w : World} (hc : Chks w v cs) (h : soundB s cs = false) :
    Calls Tryd.prog 23 #[stV s v] w fun x w' => x = .returned (.tuple #[.int .i64 0, .int .i64 0, .int .i64 2]) ∧ Below w.heap.size w w' := by
  have hc1 : Chks (w.alloc (stBox s v)) v cs := hc.below ((Below.refl _ _).alloc (Nat.le_refl _) _)
  go_enter Tryd.func23, Tryd.ntmps23
  go_wp2_with (go_at_call 48; refine (soundStation_any hc1).mono ?_; rintro x w1 ⟨rfl, hb1⟩)
  go_ret3
  exact ⟨rfl, ((Below.refl _ _).alloc (Nat.le_refl _) _).trans (hb1.mono (by simp))⟩

set_option maxHeartbeats 400000 in
theorem glassClash_none {s : Stn} {v : Value} {cs : List Chk} {w : World} (hc : Chks w v cs) (hs : soundB s cs = true) (hag : Agreed s cs) :
    Calls Tryd.prog 23 #[stV s v] w fun x w' => x = .returned (.tuple #[.int .i64 0, .int .i64 0, .int .i64 5]) ∧ Below w.heap.size w w' := by
  have hg := good_of_soundB hs
  have hc1 : Chks (w.alloc (stBox s v)) v cs := hc.below ((Below.refl _ _).alloc (Nat.le_refl _) _)
  go_enter Tryd.func23, Tryd.ntmps23
  go_wp2_with (first | (go_at_call 48; refine (soundStation_any hc1).mono ?_; rintro x w1 ⟨rfl, hb1⟩; have hz1 := hb1.size; simp at hz1; have hc1' : Chks w1 v cs := hc1.below hb1; have hN1 := fun o => hb1.cell (p := ⟨w.heap.size, o, none⟩) (by simp); have H1 := ((Below.refl w.heap.size w).alloc (Nat.le_refl _) (stBox s v)).trans (hb1.mono (by simp)); clear hb1) | (go_at_call 50; refine (look_any (cs := cs) hc.shape).mono ?_; rintro x w2 ⟨M, rfl, hb2, hM2, hk2⟩; have hz2 := hb2.size; have hc2 : Chks w2 v cs := hc1'.below hb2) | (go_at_call 56; refine (clash_agreed hc2 hg.sane hag).mono ?_; rintro x w3 ⟨rfl, hb3⟩))
  go_ret3
  exact ⟨rfl, (H1.trans (hb2.mono H1.size)).trans (hb3.mono (by have := H1.size; have := hb2.size; omega))⟩

set_option maxHeartbeats 400000 in
theorem glassClash_first {s : Stn} {v : Value} {cs : List Chk} {w : World} (hc : Chks w v cs) (hs : soundB s cs = true) {i j : Nat} (hf : First s cs i j) :
    Calls Tryd.prog 23 #[stV s v] w fun x w' => x = .returned (.tuple #[.int .i64 i, .int .i64 j, .int .i64 0]) ∧ Below w.heap.size w w' := by
  have hg := good_of_soundB hs
  have hc1 : Chks (w.alloc (stBox s v)) v cs := hc.below ((Below.refl _ _).alloc (Nat.le_refl _) _)
  go_enter Tryd.func23, Tryd.ntmps23
  go_wp2_with (first | (go_at_call 48; refine (soundStation_any hc1).mono ?_; rintro x w1 ⟨rfl, hb1⟩; have hz1 := hb1.size; simp at hz1; have hc1' : Chks w1 v cs := hc1.below hb1; have hN1 := fun o => hb1.cell (p := ⟨w.heap.size, o, none⟩) (by simp); have H1 := ((Below.refl w.heap.size w).alloc (Nat.le_refl _) (stBox s v)).trans (hb1.mono (by simp)); clear hb1) | (go_at_call 50; refine (look_any (cs := cs) hc.shape).mono ?_; rintro x w2 ⟨M, rfl, hb2, hM2, hk2⟩; have hz2 := hb2.size; have hc2 : Chks w2 v cs := hc1'.below hb2) | (go_at_call 56; refine (clash_first hc2 hg.sane hf).mono ?_; rintro x w3 ⟨rfl, hb3⟩))
  go_ret3
  exact ⟨rfl, (H1.trans (hb2.mono H1.size)).trans (hb3.mono (by have := H1.size; have := hb2.size; omega))⟩
end Go.Proofs.YtipckgojoanokaaDoor
