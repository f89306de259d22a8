/- The function When of the program. -/
import Derived.Test.YtffgcphmakfikaaDoorWhen
set_option linter.unusedVariables false
set_option linter.unusedSimpArgs false
namespace Go.Proofs.YtffgcphmakfikaaDoor
open Go.RowKit Go.Maps

/-- The minutes of a reading, as spans. -/
def whenL (s : Stn) (r : Rdg) : List (Int × Int) :=
  if r.cl = 1 then [(railF r - s.sl, railF r + s.sl)]
  else if r.cl = 2 then [(sunF s r - s.sl, sunF s r + s.sl)]
  else if max (railF r) (sunF s r) - s.sl ≤ min (railF r) (sunF s r) + s.sl + 1 then [(min (railF r) (sunF s r) - s.sl, max (railF r) (sunF s r) + s.sl)]
  else [(min (railF r) (sunF s r) - s.sl, min (railF r) (sunF s r) + s.sl), (max (railF r) (sunF s r) - s.sl, max (railF r) (sunF s r) + s.sl)]

theorem minutes_any {s : Stn} {v : Value} {cs : List Chk} {r : Rdg} {w : World} (hs : Good s cs) (hr : r.Good) :
    Calls Tryd.prog 41 #[stV s v, rdV r] w fun x w' => OwnSpans w w' x (whenL s r) := by
  unfold whenL
  split
  · exact minutes_rail hs hr (by assumption)
  · split
    · exact minutes_sun hs hr (by assumption)
    · have h3 : r.cl = 3 := by have := hr.c0; have := hr.c1; omega
      split
      · exact minutes_one hs hr h3 (by assumption)
      · exact minutes_two hs hr h3 (by assumption)

set_option maxHeartbeats 400000 in
theorem when_bad1 {s : Stn} {v : Value} {cs : List Chk} {r : Rdg} {w : World} (hc : Chks w v cs) (h1 : soundB s cs = false) :
    Calls Tryd.prog 23 #[stV s v, rdV r] w fun x w' => x = .returned (.tuple #[.slice none 0 0, .int .i64 2]) ∧ Below w.heap.size w w' := by
  have HA : Hid (((w.alloc (stBox s v)).alloc (rdBox r)).heap[w.heap.size]? = some (stBox s v)) := Lib.hid (blk_alloc (blk_new _ _ rfl) _)
  have HD : Hid (((w.alloc (stBox s v)).alloc (rdBox r)).heap[w.heap.size + 1]? = some (rdBox r)) := Lib.hid (blk_new _ _ (by simp))
  have HB : Hid (Below w.heap.size w ((w.alloc (stBox s v)).alloc (rdBox r))) := Lib.hid (below_al (below_al (Below.refl _ _) _) _)
  have hc1 : Chks ((w.alloc (stBox s v)).alloc (rdBox r)) v cs := hc.below HB.out
  go_enter Tryd.func23, Tryd.ntmps23
  go_wp2_with (go_at_call 28; refine (soundStation_any hc1).mono ?_; rintro x w1 ⟨rfl, hb1⟩; have HAq := Lib.hid (blk_below (by first | exact HA.out | exact (blk_alloc HA.out _) | exact (blk_alloc (blk_alloc HA.out _) _) | exact (blk_alloc (blk_alloc (blk_alloc HA.out _) _) _)) hb1); clear HA; have HA := HAq; clear HAq; have HAc := (boxCells HA.out).1; have HAf := (boxCells HA.out).2; have HAl := (Array.getElem?_eq_some_iff.1 HA.out).1; have HDq := Lib.hid (blk_below (by first | exact HD.out | exact (blk_alloc HD.out _) | exact (blk_alloc (blk_alloc HD.out _) _) | exact (blk_alloc (blk_alloc (blk_alloc HD.out _) _) _)) hb1); clear HD; have HD := HDq; clear HDq; have HDc := (boxCells HD.out).1; have HDf := (boxCells HD.out).2; have HDl := (Array.getElem?_eq_some_iff.1 HD.out).1; have HBq := Lib.hid (below_step (by first | exact HB.out | exact (below_al HB.out _) | exact (below_al (below_al HB.out _) _) | exact (below_al (below_al (below_al HB.out _) _) _)) hb1); clear HB; have HB := HBq; clear HBq; clear hb1)
  go_ret2
  exact ⟨rfl, HB.out⟩

set_option maxHeartbeats 400000 in
theorem when_bad2 {s : Stn} {v : Value} {cs : List Chk} {r : Rdg} {w : World} (hc : Chks w v cs) (h1 : soundB s cs = true) (h2 : readB r = false) :
    Calls Tryd.prog 23 #[stV s v, rdV r] w fun x w' => x = .returned (.tuple #[.slice none 0 0, .int .i64 2]) ∧ Below w.heap.size w w' := by
  have HA : Hid (((w.alloc (stBox s v)).alloc (rdBox r)).heap[w.heap.size]? = some (stBox s v)) := Lib.hid (blk_alloc (blk_new _ _ rfl) _)
  have HD : Hid (((w.alloc (stBox s v)).alloc (rdBox r)).heap[w.heap.size + 1]? = some (rdBox r)) := Lib.hid (blk_new _ _ (by simp))
  have HB : Hid (Below w.heap.size w ((w.alloc (stBox s v)).alloc (rdBox r))) := Lib.hid (below_al (below_al (Below.refl _ _) _) _)
  have hc1 : Chks ((w.alloc (stBox s v)).alloc (rdBox r)) v cs := hc.below HB.out
  go_enter Tryd.func23, Tryd.ntmps23
  go_wp2_with (first | (go_at_call 28; refine (soundStation_any hc1).mono ?_; rintro x w1 ⟨rfl, hb1⟩; have HAq := Lib.hid (blk_below (by first | exact HA.out | exact (blk_alloc HA.out _) | exact (blk_alloc (blk_alloc HA.out _) _) | exact (blk_alloc (blk_alloc (blk_alloc HA.out _) _) _)) hb1); clear HA; have HA := HAq; clear HAq; have HAc := (boxCells HA.out).1; have HAf := (boxCells HA.out).2; have HAl := (Array.getElem?_eq_some_iff.1 HA.out).1; have HDq := Lib.hid (blk_below (by first | exact HD.out | exact (blk_alloc HD.out _) | exact (blk_alloc (blk_alloc HD.out _) _) | exact (blk_alloc (blk_alloc (blk_alloc HD.out _) _) _)) hb1); clear HD; have HD := HDq; clear HDq; have HDc := (boxCells HD.out).1; have HDf := (boxCells HD.out).2; have HDl := (Array.getElem?_eq_some_iff.1 HD.out).1; have HBq := Lib.hid (below_step (by first | exact HB.out | exact (below_al HB.out _) | exact (below_al (below_al HB.out _) _) | exact (below_al (below_al (below_al HB.out _) _) _)) hb1); clear HB; have HB := HBq; clear HBq; clear hb1) | (go_at_call 29; refine (soundReading_any r _).mono ?_; rintro x w1b ⟨rfl, hb1b⟩; have HAq := Lib.hid (blk_below (by first | exact HA.out | exact (blk_alloc HA.out _) | exact (blk_alloc (blk_alloc HA.out _) _) | exact (blk_alloc (blk_alloc (blk_alloc HA.out _) _) _)) hb1b); clear HA; have HA := HAq; clear HAq; have HAc := (boxCells HA.out).1; have HAf := (boxCells HA.out).2; have HAl := (Array.getElem?_eq_some_iff.1 HA.out).1; have HDq := Lib.hid (blk_below (by first | exact HD.out | exact (blk_alloc HD.out _) | exact (blk_alloc (blk_alloc HD.out _) _) | exact (blk_alloc (blk_alloc (blk_alloc HD.out _) _) _)) hb1b); clear HD; have HD := HDq; clear HDq; have HDc := (boxCells HD.out).1; have HDf := (boxCells HD.out).2; have HDl := (Array.getElem?_eq_some_iff.1 HD.out).1; have HBq := Lib.hid (below_step (by first | exact HB.out | exact (below_al HB.out _) | exact (below_al (below_al HB.out _) _) | exact (below_al (below_al (below_al HB.out _) _) _)) hb1b); clear HB; have HB := HBq; clear HBq; clear hb1b))
  go_ret2
  exact ⟨rfl, HB.out⟩

/-- A slice of the call's own that holds just these spans, and no error. -/
def OwnSpans2 (w w' : World) (x : Ending) (l : List (Int × Int)) : Prop :=
  ∃ g, w.heap.size ≤ g ∧ x = .returned (.tuple #[.slice (some ⟨g, 0, none⟩) l.length l.length, .int .i64 0]) ∧ w'.heap[g]? = some (.cells (spCells l).toArray 23) ∧ Below w.heap.size w w'
set_option maxHeartbeats 400000 in
theorem when_ok {s : Stn} {v : Value} {cs : List Chk} {r : Rdg} {w : World} (hc : Chks w v cs) (hs : soundB s cs = true) (hrr : readB r = true) :
    Calls Tryd.prog 23 #[stV s v, rdV r] w fun x w' => OwnSpans2 w w' x (whenL s r) := by
  have hg := good_of_soundB hs
  have hr := good_of_readB hrr
  have HA : Hid (((w.alloc (stBox s v)).alloc (rdBox r)).heap[w.heap.size]? = some (stBox s v)) := Lib.hid (blk_alloc (blk_new _ _ rfl) _)
  have HD : Hid (((w.alloc (stBox s v)).alloc (rdBox r)).heap[w.heap.size + 1]? = some (rdBox r)) := Lib.hid (blk_new _ _ (by simp))
  have HB : Hid (Below w.heap.size w ((w.alloc (stBox s v)).alloc (rdBox r))) := Lib.hid (below_al (below_al (Below.refl _ _) _) _)
  have hc1 : Chks ((w.alloc (stBox s v)).alloc (rdBox r)) v cs := hc.below HB.out
  go_enter Tryd.func23, Tryd.ntmps23
  go_wp2_with (first | (go_at_call 28; refine (soundStation_any hc1).mono ?_; rintro x w1 ⟨rfl, hb1⟩; have HAq := Lib.hid (blk_below (by first | exact HA.out | exact (blk_alloc HA.out _) | exact (blk_alloc (blk_alloc HA.out _) _) | exact (blk_alloc (blk_alloc (blk_alloc HA.out _) _) _)) hb1); clear HA; have HA := HAq; clear HAq; have HAc := (boxCells HA.out).1; have HAf := (boxCells HA.out).2; have HAl := (Array.getElem?_eq_some_iff.1 HA.out).1; have HDq := Lib.hid (blk_below (by first | exact HD.out | exact (blk_alloc HD.out _) | exact (blk_alloc (blk_alloc HD.out _) _) | exact (blk_alloc (blk_alloc (blk_alloc HD.out _) _) _)) hb1); clear HD; have HD := HDq; clear HDq; have HDc := (boxCells HD.out).1; have HDf := (boxCells HD.out).2; have HDl := (Array.getElem?_eq_some_iff.1 HD.out).1; have HBq := Lib.hid (below_step (by first | exact HB.out | exact (below_al HB.out _) | exact (below_al (below_al HB.out _) _) | exact (below_al (below_al (below_al HB.out _) _) _)) hb1); clear HB; have HB := HBq; clear HBq; clear hb1) | (go_at_call 29; refine (soundReading_any r _).mono ?_; rintro x w1b ⟨rfl, hb1b⟩; have HAq := Lib.hid (blk_below (by first | exact HA.out | exact (blk_alloc HA.out _) | exact (blk_alloc (blk_alloc HA.out _) _) | exact (blk_alloc (blk_alloc (blk_alloc HA.out _) _) _)) hb1b); clear HA; have HA := HAq; clear HAq; have HAc := (boxCells HA.out).1; have HAf := (boxCells HA.out).2; have HAl := (Array.getElem?_eq_some_iff.1 HA.out).1; have HDq := Lib.hid (blk_below (by first | exact HD.out | exact (blk_alloc HD.out _) | exact (blk_alloc (blk_alloc HD.out _) _) | exact (blk_alloc (blk_alloc (blk_alloc HD.out _) _) _)) hb1b); clear HD; have HD := HDq; clear HDq; have HDc := (boxCells HD.out).1; have HDf := (boxCells HD.out).2; have HDl := (Array.getElem?_eq_some_iff.1 HD.out).1; have HBq := Lib.hid (below_step (by first | exact HB.out | exact (below_al HB.out _) | exact (below_al (below_al HB.out _) _) | exact (below_al (below_al (below_al HB.out _) _) _)) hb1b); clear HB; have HB := HBq; clear HBq; clear hb1b) | (go_at_call 41; refine (minutes_any hg hr).mono ?_; rintro x w2 ⟨g, hgl, rfl, hcells, hb2⟩; have HBz := HB.out.size; have HBq := Lib.hid (below_step (by first | exact HB.out | exact (below_al HB.out _) | exact (below_al (below_al HB.out _) _) | exact (below_al (below_al (below_al HB.out _) _) _)) hb2); clear HB; have HB := HBq; clear HBq; have HCe := Lib.hid hcells; clear hb2 hcells))
  go_ret2
  exact ⟨_, by omega, rfl, HCe.out, HB.out⟩
end Go.Proofs.YtffgcphmakfikaaDoor
