/- The reference's truths in which an end is reached. -/
import Derived.Test.YtipckgojoanokaaDoorRpl
set_option linter.unusedVariables false
set_option linter.unusedSimpArgs false
namespace Go.Proofs.YtipckgojoanokaaDoor
open Go.RowKit Go.Maps

theorem rPick_at (a b : Int) (h : Bool) (w : World) :
    Calls Tryd.prog 67 #[.agg #[.int .i64 a, .int .i64 b], .bool h] w fun e w' => e = .returned (.int .i64 (if h then b else a)) ∧ w.alloc (spBox a b) = w' := by
  cases h
  all_goals
    go_enter Tryd.func67, Tryd.ntmps67
    go_wp2
    go_ret
    exact ⟨rfl, rfl⟩
theorem rPick_hi (a b : Int) (w : World) : Calls Tryd.prog 67 #[.agg #[.int .i64 a, .int .i64 b], .bool true] w fun e w' => e = .returned (.int .i64 b) ∧ w.alloc (spBox a b) = w' := rPick_at a b true w
theorem rPick_lo (a b : Int) (w : World) : Calls Tryd.prog 67 #[.agg #[.int .i64 a, .int .i64 b], .bool false] w fun e w' => e = .returned (.int .i64 a) ∧ w.alloc (spBox a b) = w' := rPick_at a b false w
theorem rPickB_hi (a b : Int) (w : World) : Calls Tryd.prog 67 #[.agg #[.int .i64 a, .int .i64 b], .bool true] w fun e w' => e = .returned (.int .i64 b) ∧ Below w.heap.size w w' := rPick_any a b true w
theorem rPickB_lo (a b : Int) (w : World) : Calls Tryd.prog 67 #[.agg #[.int .i64 a, .int .i64 b], .bool false] w fun e w' => e = .returned (.int .i64 a) ∧ Below w.heap.size w w' := rPick_any a b false w
/-- The truth in which an end is reached: the numbers of the ends are those of the document's order. -/
def etF (s : Stn) (cs : List Chk) (r : Rdg) (e : Nat) : Tru :=
  if e = 0 then ⟨highF s r.day cs, s.rd, s.gl, s.hl, r.ah, r.dl, r.wl⟩ else if e = 1 then ⟨lowF s r.day cs, -s.rd, s.gh, s.hl, r.al, r.dl, r.wl⟩ else if e = 2 then ⟨highF s r.day cs, s.rd, s.gl, s.hl, r.ah, r.dh, r.wl⟩
  else if e = 3 then ⟨lowF s r.day cs, -s.rd, s.gh, s.hh, r.al, r.dl, r.wl⟩ else if e = 4 then ⟨lowF s r.day cs, -s.rd, s.gh, s.hl, r.al, r.dh, r.wl⟩ else ⟨highF s r.day cs, s.rd, s.gl, s.hl, r.ah, r.dl, r.wh⟩

set_option maxHeartbeats 2000000 in
set_option maxRecDepth 100000 in
theorem rEnd_0 {s : Stn} {v : Value} {cs : List Chk} {r : Rdg} {w : World} (hc : Chks w v cs) (hg : Good s cs) (hr : r.Good) :
    Calls Tryd.prog 39 #[stV s v, rdV r, .int .i64 0] w fun e w' => e = .returned (trV (etF s cs r 0)) ∧ Below w.heap.size w w' := by
  obtain ⟨A, k, c, rfl⟩ := hc.shape
  have HR : Hid (Frm w [(w.heap.size + 1 + 1, (.cells #[.int .i64 0, .int .i64 0, .int .i64 0, .int .i64 0, .int .i64 0, .int .i64 0, .int .i64 0] 57)), (w.heap.size + 1, (rdBox r)), (w.heap.size, (stBox s (.slice A k c)))] (((w.alloc (stBox s (.slice A k c))).alloc (rdBox r)).alloc (.cells #[.int .i64 0, .int .i64 0, .int .i64 0, .int .i64 0, .int .i64 0, .int .i64 0, .int .i64 0] 57))) := Lib.hid ((((Frm.nil w).add _ (by simp)).add _ (by simp)).add _ (by simp))
  have HC := Lib.hid (hc.below HR.out.b)
  clear hc
  have r0 := hg.r0
  have r1 := hg.r1
  have HX : Hid (∀ W, Chks W (.slice A k c) cs → Calls Tryd.prog 22 #[stV s (.slice A k c), .int .i64 r.day] W fun x w' => x = .returned (spV (lowF s r.day cs) (highF s r.day cs)) ∧ Below W.heap.size W w') := Lib.hid (fun W h => rIndex_any h hg.sane hr.d0 hr.d1)
  have HE := Lib.hid (show trV (etF s cs r 0) = trV ⟨highF s r.day cs, s.rd, s.gl, s.hl, r.ah, r.dl, r.wl⟩ from rfl)
  generalize trV (etF s cs r 0) = res at *
  generalize lowF s r.day cs = lo at *
  generalize highF s r.day cs = hi at *
  go_enter Tryd.func39, Tryd.ntmps39
  go_wp2_with fail
  refine (HX.out _ HC.out).mono ?_
  rintro e w1 ⟨rfl, hb⟩
  have hz : w.heap.size + 1 + 1 < w1.heap.size := (HR.out.below hb).lt (List.mem_cons_self ..)
  have HR1 := Lib.hid ((HR.out.below hb).add (spBox lo hi) rfl)
  clear HR hb HC HX
  have HR := HR1
  clear HR1
  have c0 := HR.out.cells (List.mem_cons_self ..)
  have c2 := HR.out.cells (List.mem_cons_of_mem _ (List.mem_cons_of_mem _ (List.mem_cons_self ..)))
  have c3 := HR.out.cells (List.mem_cons_of_mem _ (List.mem_cons_of_mem _ (List.mem_cons_of_mem _ (List.mem_cons_self ..))))
  go_upto_region 3 with fail
  go_cut [9] (fun s9 wx => ∃ K : Nat, s9 = .pointer (some ⟨K, 0, none⟩) ∧ w.heap.size + 1 + 1 < K ∧ K ≠ w1.heap.size ∧ Frm w [(K, (.cells #[.int .i64 hi, .int .i64 s.rd, .int .i64 s.gl, .int .i64 0, .int .i64 r.ah, .int .i64 0, .int .i64 0] 57)), (w1.heap.size, (spBox lo hi)), (w.heap.size + 1 + 1, (.cells #[.int .i64 0, .int .i64 0, .int .i64 0, .int .i64 0, .int .i64 0, .int .i64 0, .int .i64 0] 57)), (w.heap.size + 1, (rdBox r)), (w.heap.size, (stBox s (.slice A k c)))] wx)
  case first =>
    go_region_held3 (fun w' => (∀ o, w'.cell? ⟨w1.heap.size, o, none⟩ = #[Value.int .i64 lo, .int .i64 hi][o]?) ∧ (∀ o, w'.cell? ⟨w.heap.size + 1, o, none⟩ = #[Value.int .i64 r.day, .int .i64 r.mi, .int .i64 r.cl, .int .i64 r.me, .int .i64 r.al, .int .i64 r.ah, .int .i64 r.dl, .int .i64 r.dh, .int .i64 r.wl, .int .i64 r.wh][o]?) ∧ (∀ o, w'.cell? ⟨w.heap.size, o, none⟩ = #[Value.int .i64 s.hl, .int .i64 s.hh, .int .i64 s.gl, .int .i64 s.gh, .int .i64 s.dr, .int .i64 s.rd, .int .i64 s.ea, .int .i64 s.sl, .slice A k c][o]?)) ((exact (fun hF : Frm w [(w1.heap.size, (spBox lo hi)), (w.heap.size + 1 + 1, (.cells #[.int .i64 0, .int .i64 0, .int .i64 0, .int .i64 0, .int .i64 0, .int .i64 0, .int .i64 0] 57)), (w.heap.size + 1, (rdBox r)), (w.heap.size, (stBox s (.slice A k c)))] _ => ⟨hF.cells (List.mem_cons_self ..), hF.cells (List.mem_cons_of_mem _ (List.mem_cons_of_mem _ (List.mem_cons_self ..))), hF.cells (List.mem_cons_of_mem _ (List.mem_cons_of_mem _ (List.mem_cons_of_mem _ (List.mem_cons_self ..))))⟩) (by (repeat (with_reducible first | exact HR.out | apply Frm.drew | apply Frm.alloc))))) ((go_at_call 67; (first | (with_reducible refine (rPick_hi _ _ _).mono ?_) | (with_reducible refine (rPick_lo _ _ _).mono ?_)); rintro e wa ⟨rfl, rfl⟩))
    all_goals
      go_wp2_with fail
      go_meet
      refine ⟨_, rfl, ?_, ?_, ⟨?_, fun p hp => ?_⟩⟩
      · simp <;> omega
      · simp <;> omega
      · (repeat (with_reducible first | exact HR.out.b | apply below_dr | apply below_al))
      · simp only [List.mem_cons, List.not_mem_nil, or_false] at hp
        rcases hp with rfl | rfl | rfl | rfl | rfl
        · (repeat (with_reducible first | exact heap_new _ _ (by simp) | apply blk_dr | apply blk_alloc))
        · (repeat (with_reducible first | exact HR.out.h _ (List.mem_cons_self ..) | apply blk_dr | apply blk_alloc))
        · (repeat (with_reducible first | exact HR.out.h _ (List.mem_cons_of_mem _ (List.mem_cons_self ..)) | apply blk_dr | apply blk_alloc))
        · (repeat (with_reducible first | exact HR.out.h _ (List.mem_cons_of_mem _ (List.mem_cons_of_mem _ (List.mem_cons_self ..))) | apply blk_dr | apply blk_alloc))
        · (repeat (with_reducible first | exact HR.out.h _ (List.mem_cons_of_mem _ (List.mem_cons_of_mem _ (List.mem_cons_of_mem _ (List.mem_cons_self ..)))) | apply blk_dr | apply blk_alloc))
  case rest =>
  obtain ⟨K, rfl, hK1, hK2, hF⟩ := hcut
  clear c0 c2 c3 HR
  have HR := Lib.hid hF
  clear hF
  have c0 := HR.out.cells (List.mem_cons_self ..)
  have f0 := HR.out.free (List.mem_cons_self ..)
  have c1 := HR.out.cells (List.mem_cons_of_mem _ (List.mem_cons_self ..))
  have c2 := HR.out.cells (List.mem_cons_of_mem _ (List.mem_cons_of_mem _ (List.mem_cons_of_mem _ (List.mem_cons_self ..))))
  have c3 := HR.out.cells (List.mem_cons_of_mem _ (List.mem_cons_of_mem _ (List.mem_cons_of_mem _ (List.mem_cons_of_mem _ (List.mem_cons_self ..)))))
  go_wp2_with fail
  refine (rPickB_lo _ _ _).mono ?_
  rintro e wa ⟨rfl, hb⟩
  have HRa : Hid (Frm w [(K, (.cells #[.int .i64 hi, .int .i64 s.rd, .int .i64 s.gl, .int .i64 0, .int .i64 r.ah, .int .i64 0, .int .i64 0] 57)), (w1.heap.size, (spBox lo hi)), (w.heap.size + 1 + 1, (.cells #[.int .i64 0, .int .i64 0, .int .i64 0, .int .i64 0, .int .i64 0, .int .i64 0, .int .i64 0] 57)), (w.heap.size + 1, (rdBox r)), (w.heap.size, (stBox s (.slice A k c)))] wa) := Lib.hid (Frm.below (w := w) (bs := [(K, (.cells #[.int .i64 hi, .int .i64 s.rd, .int .i64 s.gl, .int .i64 0, .int .i64 r.ah, .int .i64 0, .int .i64 0] 57)), (w1.heap.size, (spBox lo hi)), (w.heap.size + 1 + 1, (.cells #[.int .i64 0, .int .i64 0, .int .i64 0, .int .i64 0, .int .i64 0, .int .i64 0, .int .i64 0] 57)), (w.heap.size + 1, (rdBox r)), (w.heap.size, (stBox s (.slice A k c)))]) (by first | exact HR.out | exact HR.out.drew) hb)
  clear hb
  clear c0 f0 c1 c2 c3
  have d0 := HRa.out.cells (List.mem_cons_self ..)
  have d1 := HRa.out.free (List.mem_cons_self ..)
  have d2 := HRa.out.cells (List.mem_cons_of_mem _ (List.mem_cons_of_mem _ (List.mem_cons_of_mem _ (List.mem_cons_self ..))))
  have d3 := HRa.out.cells (List.mem_cons_of_mem _ (List.mem_cons_of_mem _ (List.mem_cons_of_mem _ (List.mem_cons_of_mem _ (List.mem_cons_self ..)))))
  have d4 := HRa.out.lt (List.mem_cons_self ..)
  have d5 := HRa.out.cells (List.mem_cons_of_mem _ (List.mem_cons_of_mem _ (List.mem_cons_self ..)))
  go_wp2_with fail
  refine (rPickB_lo _ _ _).mono ?_
  rintro e wb ⟨rfl, hb⟩
  have HRb : Hid (Frm w [(K, (.cells #[.int .i64 hi, .int .i64 s.rd, .int .i64 s.gl, .int .i64 s.hl, .int .i64 r.ah, .int .i64 0, .int .i64 0] 57)), (w1.heap.size, (spBox lo hi)), (w.heap.size + 1 + 1, (.cells #[.int .i64 0, .int .i64 0, .int .i64 0, .int .i64 0, .int .i64 0, .int .i64 0, .int .i64 0] 57)), (w.heap.size + 1, (rdBox r)), (w.heap.size, (stBox s (.slice A k c)))] wb) := Lib.hid (Frm.below (w := w) (bs := [(K, (.cells #[.int .i64 hi, .int .i64 s.rd, .int .i64 s.gl, .int .i64 s.hl, .int .i64 r.ah, .int .i64 0, .int .i64 0] 57)), (w1.heap.size, (spBox lo hi)), (w.heap.size + 1 + 1, (.cells #[.int .i64 0, .int .i64 0, .int .i64 0, .int .i64 0, .int .i64 0, .int .i64 0, .int .i64 0] 57)), (w.heap.size + 1, (rdBox r)), (w.heap.size, (stBox s (.slice A k c)))]) (show Frm w [(K, (.cells #[.int .i64 hi, .int .i64 s.rd, .int .i64 s.gl, .int .i64 s.hl, .int .i64 r.ah, .int .i64 0, .int .i64 0] 57)), (w1.heap.size, (spBox lo hi)), (w.heap.size + 1 + 1, (.cells #[.int .i64 0, .int .i64 0, .int .i64 0, .int .i64 0, .int .i64 0, .int .i64 0, .int .i64 0] 57)), (w.heap.size + 1, (rdBox r)), (w.heap.size, (stBox s (.slice A k c)))] _ from Frm.put HRa.out (by omega) (by simp <;> omega) 3 _) hb)
  clear hb
  clear d0 d1 d2 d3 d4 d5
  have d0 := HRb.out.cells (List.mem_cons_self ..)
  have d1 := HRb.out.free (List.mem_cons_self ..)
  have d2 := HRb.out.cells (List.mem_cons_of_mem _ (List.mem_cons_of_mem _ (List.mem_cons_of_mem _ (List.mem_cons_self ..))))
  have d3 := HRb.out.cells (List.mem_cons_of_mem _ (List.mem_cons_of_mem _ (List.mem_cons_of_mem _ (List.mem_cons_of_mem _ (List.mem_cons_self ..)))))
  have d4 := HRb.out.lt (List.mem_cons_self ..)
  have d5 := HRb.out.cells (List.mem_cons_of_mem _ (List.mem_cons_of_mem _ (List.mem_cons_self ..)))
  go_wp2_with fail
  refine (rPickB_lo _ _ _).mono ?_
  rintro e wd ⟨rfl, hb⟩
  have HRd : Hid (Frm w [(K, (.cells #[.int .i64 hi, .int .i64 s.rd, .int .i64 s.gl, .int .i64 s.hl, .int .i64 r.ah, .int .i64 r.dl, .int .i64 0] 57)), (w1.heap.size, (spBox lo hi)), (w.heap.size + 1 + 1, (.cells #[.int .i64 0, .int .i64 0, .int .i64 0, .int .i64 0, .int .i64 0, .int .i64 0, .int .i64 0] 57)), (w.heap.size + 1, (rdBox r)), (w.heap.size, (stBox s (.slice A k c)))] wd) := Lib.hid (Frm.below (w := w) (bs := [(K, (.cells #[.int .i64 hi, .int .i64 s.rd, .int .i64 s.gl, .int .i64 s.hl, .int .i64 r.ah, .int .i64 r.dl, .int .i64 0] 57)), (w1.heap.size, (spBox lo hi)), (w.heap.size + 1 + 1, (.cells #[.int .i64 0, .int .i64 0, .int .i64 0, .int .i64 0, .int .i64 0, .int .i64 0, .int .i64 0] 57)), (w.heap.size + 1, (rdBox r)), (w.heap.size, (stBox s (.slice A k c)))]) (show Frm w [(K, (.cells #[.int .i64 hi, .int .i64 s.rd, .int .i64 s.gl, .int .i64 s.hl, .int .i64 r.ah, .int .i64 r.dl, .int .i64 0] 57)), (w1.heap.size, (spBox lo hi)), (w.heap.size + 1 + 1, (.cells #[.int .i64 0, .int .i64 0, .int .i64 0, .int .i64 0, .int .i64 0, .int .i64 0, .int .i64 0] 57)), (w.heap.size + 1, (rdBox r)), (w.heap.size, (stBox s (.slice A k c)))] _ from Frm.put HRb.out (by omega) (by simp <;> omega) 5 _) hb)
  clear hb
  clear d0 d1 d2 d3 d4 d5
  have d0 := HRd.out.cells (List.mem_cons_self ..)
  have d1 := HRd.out.free (List.mem_cons_self ..)
  have d2 := HRd.out.cells (List.mem_cons_of_mem _ (List.mem_cons_of_mem _ (List.mem_cons_of_mem _ (List.mem_cons_self ..))))
  have d3 := HRd.out.cells (List.mem_cons_of_mem _ (List.mem_cons_of_mem _ (List.mem_cons_of_mem _ (List.mem_cons_of_mem _ (List.mem_cons_self ..)))))
  have d4 := HRd.out.lt (List.mem_cons_self ..)
  have d5 := HRd.out.cells (List.mem_cons_of_mem _ (List.mem_cons_of_mem _ (List.mem_cons_self ..)))
  have d6 := HRd.out.free (List.mem_cons_of_mem _ (List.mem_cons_of_mem _ (List.mem_cons_self ..)))
  have d7 := HRd.out.lt (List.mem_cons_of_mem _ (List.mem_cons_of_mem _ (List.mem_cons_self ..)))
  go_wp2_with fail
  have u0 := (boxCells (heap_setCell_same (o := 6) (heap_setCell_same (o := 5) (heap_setCell_same (o := 4) (heap_setCell_same (o := 3) (heap_setCell_same (o := 2) (heap_setCell_same (o := 1) (heap_setCell_same (o := 0) (blk_set (HRd.out.h _ (List.mem_cons_of_mem _ (List.mem_cons_of_mem _ (List.mem_cons_self ..)))) (a := ⟨K, 6, none⟩) (by simp <;> omega) (.int .i64 r.wl)) (.int .i64 hi)) (.int .i64 s.rd)) (.int .i64 s.gl)) (.int .i64 s.hl)) (.int .i64 r.ah)) (.int .i64 r.dl)) (.int .i64 r.wl))).1
  refine bodyPost_ret (v := trV ⟨hi, s.rd, s.gl, s.hl, r.ah, r.dl, r.wl⟩) (by simp [results, Tryd.results39, go_sem, u0]) rfl ⟨by rw [HE.out], ?_⟩
  exact (below_set (below_set (below_set (below_set (below_set (below_set (below_set (below_set HRd.out.b (by simp <;> omega) _) (by simp <;> omega) _) (by simp <;> omega) _) (by simp <;> omega) _) (by simp <;> omega) _) (by simp <;> omega) _) (by simp <;> omega) _) (by simp <;> omega) _)

set_option maxHeartbeats 2000000 in
set_option maxRecDepth 100000 in
theorem rEnd_1 {s : Stn} {v : Value} {cs : List Chk} {r : Rdg} {w : World} (hc : Chks w v cs) (hg : Good s cs) (hr : r.Good) :
    Calls Tryd.prog 39 #[stV s v, rdV r, .int .i64 1] w fun e w' => e = .returned (trV (etF s cs r 1)) ∧ Below w.heap.size w w' := by
  obtain ⟨A, k, c, rfl⟩ := hc.shape
  have HR : Hid (Frm w [(w.heap.size + 1 + 1, (.cells #[.int .i64 0, .int .i64 0, .int .i64 0, .int .i64 0, .int .i64 0, .int .i64 0, .int .i64 0] 57)), (w.heap.size + 1, (rdBox r)), (w.heap.size, (stBox s (.slice A k c)))] (((w.alloc (stBox s (.slice A k c))).alloc (rdBox r)).alloc (.cells #[.int .i64 0, .int .i64 0, .int .i64 0, .int .i64 0, .int .i64 0, .int .i64 0, .int .i64 0] 57))) := Lib.hid ((((Frm.nil w).add _ (by simp)).add _ (by simp)).add _ (by simp))
  have HC := Lib.hid (hc.below HR.out.b)
  clear hc
  have r0 := hg.r0
  have r1 := hg.r1
  have HX : Hid (∀ W, Chks W (.slice A k c) cs → Calls Tryd.prog 22 #[stV s (.slice A k c), .int .i64 r.day] W fun x w' => x = .returned (spV (lowF s r.day cs) (highF s r.day cs)) ∧ Below W.heap.size W w') := Lib.hid (fun W h => rIndex_any h hg.sane hr.d0 hr.d1)
  have HE := Lib.hid (show trV (etF s cs r 1) = trV ⟨lowF s r.day cs, (-s.rd), s.gh, s.hl, r.al, r.dl, r.wl⟩ from rfl)
  generalize trV (etF s cs r 1) = res at *
  generalize lowF s r.day cs = lo at *
  generalize highF s r.day cs = hi at *
  go_enter Tryd.func39, Tryd.ntmps39
  go_wp2_with fail
  refine (HX.out _ HC.out).mono ?_
  rintro e w1 ⟨rfl, hb⟩
  have hz : w.heap.size + 1 + 1 < w1.heap.size := (HR.out.below hb).lt (List.mem_cons_self ..)
  have HR1 := Lib.hid ((HR.out.below hb).add (spBox lo hi) rfl)
  clear HR hb HC HX
  have HR := HR1
  clear HR1
  have c0 := HR.out.cells (List.mem_cons_self ..)
  have c2 := HR.out.cells (List.mem_cons_of_mem _ (List.mem_cons_of_mem _ (List.mem_cons_self ..)))
  have c3 := HR.out.cells (List.mem_cons_of_mem _ (List.mem_cons_of_mem _ (List.mem_cons_of_mem _ (List.mem_cons_self ..))))
  go_upto_region 3 with fail
  go_cut [9] (fun s9 wx => ∃ K : Nat, s9 = .pointer (some ⟨K, 0, none⟩) ∧ w.heap.size + 1 + 1 < K ∧ K ≠ w1.heap.size ∧ Frm w [(K, (.cells #[.int .i64 lo, .int .i64 s.rd, .int .i64 s.gh, .int .i64 0, .int .i64 r.al, .int .i64 0, .int .i64 0] 57)), (w1.heap.size, (spBox lo hi)), (w.heap.size + 1 + 1, (.cells #[.int .i64 0, .int .i64 0, .int .i64 0, .int .i64 0, .int .i64 0, .int .i64 0, .int .i64 0] 57)), (w.heap.size + 1, (rdBox r)), (w.heap.size, (stBox s (.slice A k c)))] wx)
  case first =>
    go_region_held3 (fun w' => (∀ o, w'.cell? ⟨w1.heap.size, o, none⟩ = #[Value.int .i64 lo, .int .i64 hi][o]?) ∧ (∀ o, w'.cell? ⟨w.heap.size + 1, o, none⟩ = #[Value.int .i64 r.day, .int .i64 r.mi, .int .i64 r.cl, .int .i64 r.me, .int .i64 r.al, .int .i64 r.ah, .int .i64 r.dl, .int .i64 r.dh, .int .i64 r.wl, .int .i64 r.wh][o]?) ∧ (∀ o, w'.cell? ⟨w.heap.size, o, none⟩ = #[Value.int .i64 s.hl, .int .i64 s.hh, .int .i64 s.gl, .int .i64 s.gh, .int .i64 s.dr, .int .i64 s.rd, .int .i64 s.ea, .int .i64 s.sl, .slice A k c][o]?)) ((exact (fun hF : Frm w [(w1.heap.size, (spBox lo hi)), (w.heap.size + 1 + 1, (.cells #[.int .i64 0, .int .i64 0, .int .i64 0, .int .i64 0, .int .i64 0, .int .i64 0, .int .i64 0] 57)), (w.heap.size + 1, (rdBox r)), (w.heap.size, (stBox s (.slice A k c)))] _ => ⟨hF.cells (List.mem_cons_self ..), hF.cells (List.mem_cons_of_mem _ (List.mem_cons_of_mem _ (List.mem_cons_self ..))), hF.cells (List.mem_cons_of_mem _ (List.mem_cons_of_mem _ (List.mem_cons_of_mem _ (List.mem_cons_self ..))))⟩) (by (repeat (with_reducible first | exact HR.out | apply Frm.drew | apply Frm.alloc))))) ((go_at_call 67; (first | (with_reducible refine (rPick_hi _ _ _).mono ?_) | (with_reducible refine (rPick_lo _ _ _).mono ?_)); rintro e wa ⟨rfl, rfl⟩))
    all_goals
      go_wp2_with fail
      go_meet
      refine ⟨_, rfl, ?_, ?_, ⟨?_, fun p hp => ?_⟩⟩
      · simp <;> omega
      · simp <;> omega
      · (repeat (with_reducible first | exact HR.out.b | apply below_dr | apply below_al))
      · simp only [List.mem_cons, List.not_mem_nil, or_false] at hp
        rcases hp with rfl | rfl | rfl | rfl | rfl
        · (repeat (with_reducible first | exact heap_new _ _ (by simp) | apply blk_dr | apply blk_alloc))
        · (repeat (with_reducible first | exact HR.out.h _ (List.mem_cons_self ..) | apply blk_dr | apply blk_alloc))
        · (repeat (with_reducible first | exact HR.out.h _ (List.mem_cons_of_mem _ (List.mem_cons_self ..)) | apply blk_dr | apply blk_alloc))
        · (repeat (with_reducible first | exact HR.out.h _ (List.mem_cons_of_mem _ (List.mem_cons_of_mem _ (List.mem_cons_self ..))) | apply blk_dr | apply blk_alloc))
        · (repeat (with_reducible first | exact HR.out.h _ (List.mem_cons_of_mem _ (List.mem_cons_of_mem _ (List.mem_cons_of_mem _ (List.mem_cons_self ..)))) | apply blk_dr | apply blk_alloc))
  case rest =>
  obtain ⟨K, rfl, hK1, hK2, hF⟩ := hcut
  clear c0 c2 c3 HR
  have HR := Lib.hid hF
  clear hF
  have c0 := HR.out.cells (List.mem_cons_self ..)
  have f0 := HR.out.free (List.mem_cons_self ..)
  have c1 := HR.out.cells (List.mem_cons_of_mem _ (List.mem_cons_self ..))
  have c2 := HR.out.cells (List.mem_cons_of_mem _ (List.mem_cons_of_mem _ (List.mem_cons_of_mem _ (List.mem_cons_self ..))))
  have c3 := HR.out.cells (List.mem_cons_of_mem _ (List.mem_cons_of_mem _ (List.mem_cons_of_mem _ (List.mem_cons_of_mem _ (List.mem_cons_self ..)))))
  go_wp2_with fail
  refine (rPickB_lo _ _ _).mono ?_
  rintro e wa ⟨rfl, hb⟩
  have HRa : Hid (Frm w [(K, (.cells #[.int .i64 lo, .int .i64 (-s.rd), .int .i64 s.gh, .int .i64 0, .int .i64 r.al, .int .i64 0, .int .i64 0] 57)), (w1.heap.size, (spBox lo hi)), (w.heap.size + 1 + 1, (.cells #[.int .i64 0, .int .i64 0, .int .i64 0, .int .i64 0, .int .i64 0, .int .i64 0, .int .i64 0] 57)), (w.heap.size + 1, (rdBox r)), (w.heap.size, (stBox s (.slice A k c)))] wa) := Lib.hid (Frm.below (w := w) (bs := [(K, (.cells #[.int .i64 lo, .int .i64 (-s.rd), .int .i64 s.gh, .int .i64 0, .int .i64 r.al, .int .i64 0, .int .i64 0] 57)), (w1.heap.size, (spBox lo hi)), (w.heap.size + 1 + 1, (.cells #[.int .i64 0, .int .i64 0, .int .i64 0, .int .i64 0, .int .i64 0, .int .i64 0, .int .i64 0] 57)), (w.heap.size + 1, (rdBox r)), (w.heap.size, (stBox s (.slice A k c)))]) (show Frm w [(K, (.cells #[.int .i64 lo, .int .i64 (-s.rd), .int .i64 s.gh, .int .i64 0, .int .i64 r.al, .int .i64 0, .int .i64 0] 57)), (w1.heap.size, (spBox lo hi)), (w.heap.size + 1 + 1, (.cells #[.int .i64 0, .int .i64 0, .int .i64 0, .int .i64 0, .int .i64 0, .int .i64 0, .int .i64 0] 57)), (w.heap.size + 1, (rdBox r)), (w.heap.size, (stBox s (.slice A k c)))] _ from Frm.put HR.out (by omega) (by simp <;> omega) 1 _) hb)
  clear hb
  clear c0 f0 c1 c2 c3
  have d0 := HRa.out.cells (List.mem_cons_self ..)
  have d1 := HRa.out.free (List.mem_cons_self ..)
  have d2 := HRa.out.cells (List.mem_cons_of_mem _ (List.mem_cons_of_mem _ (List.mem_cons_of_mem _ (List.mem_cons_self ..))))
  have d3 := HRa.out.cells (List.mem_cons_of_mem _ (List.mem_cons_of_mem _ (List.mem_cons_of_mem _ (List.mem_cons_of_mem _ (List.mem_cons_self ..)))))
  have d4 := HRa.out.lt (List.mem_cons_self ..)
  have d5 := HRa.out.cells (List.mem_cons_of_mem _ (List.mem_cons_of_mem _ (List.mem_cons_self ..)))
  go_wp2_with fail
  refine (rPickB_lo _ _ _).mono ?_
  rintro e wb ⟨rfl, hb⟩
  have HRb : Hid (Frm w [(K, (.cells #[.int .i64 lo, .int .i64 (-s.rd), .int .i64 s.gh, .int .i64 s.hl, .int .i64 r.al, .int .i64 0, .int .i64 0] 57)), (w1.heap.size, (spBox lo hi)), (w.heap.size + 1 + 1, (.cells #[.int .i64 0, .int .i64 0, .int .i64 0, .int .i64 0, .int .i64 0, .int .i64 0, .int .i64 0] 57)), (w.heap.size + 1, (rdBox r)), (w.heap.size, (stBox s (.slice A k c)))] wb) := Lib.hid (Frm.below (w := w) (bs := [(K, (.cells #[.int .i64 lo, .int .i64 (-s.rd), .int .i64 s.gh, .int .i64 s.hl, .int .i64 r.al, .int .i64 0, .int .i64 0] 57)), (w1.heap.size, (spBox lo hi)), (w.heap.size + 1 + 1, (.cells #[.int .i64 0, .int .i64 0, .int .i64 0, .int .i64 0, .int .i64 0, .int .i64 0, .int .i64 0] 57)), (w.heap.size + 1, (rdBox r)), (w.heap.size, (stBox s (.slice A k c)))]) (show Frm w [(K, (.cells #[.int .i64 lo, .int .i64 (-s.rd), .int .i64 s.gh, .int .i64 s.hl, .int .i64 r.al, .int .i64 0, .int .i64 0] 57)), (w1.heap.size, (spBox lo hi)), (w.heap.size + 1 + 1, (.cells #[.int .i64 0, .int .i64 0, .int .i64 0, .int .i64 0, .int .i64 0, .int .i64 0, .int .i64 0] 57)), (w.heap.size + 1, (rdBox r)), (w.heap.size, (stBox s (.slice A k c)))] _ from Frm.put HRa.out (by omega) (by simp <;> omega) 3 _) hb)
  clear hb
  clear d0 d1 d2 d3 d4 d5
  have d0 := HRb.out.cells (List.mem_cons_self ..)
  have d1 := HRb.out.free (List.mem_cons_self ..)
  have d2 := HRb.out.cells (List.mem_cons_of_mem _ (List.mem_cons_of_mem _ (List.mem_cons_of_mem _ (List.mem_cons_self ..))))
  have d3 := HRb.out.cells (List.mem_cons_of_mem _ (List.mem_cons_of_mem _ (List.mem_cons_of_mem _ (List.mem_cons_of_mem _ (List.mem_cons_self ..)))))
  have d4 := HRb.out.lt (List.mem_cons_self ..)
  have d5 := HRb.out.cells (List.mem_cons_of_mem _ (List.mem_cons_of_mem _ (List.mem_cons_self ..)))
  go_wp2_with fail
  refine (rPickB_lo _ _ _).mono ?_
  rintro e wd ⟨rfl, hb⟩
  have HRd : Hid (Frm w [(K, (.cells #[.int .i64 lo, .int .i64 (-s.rd), .int .i64 s.gh, .int .i64 s.hl, .int .i64 r.al, .int .i64 r.dl, .int .i64 0] 57)), (w1.heap.size, (spBox lo hi)), (w.heap.size + 1 + 1, (.cells #[.int .i64 0, .int .i64 0, .int .i64 0, .int .i64 0, .int .i64 0, .int .i64 0, .int .i64 0] 57)), (w.heap.size + 1, (rdBox r)), (w.heap.size, (stBox s (.slice A k c)))] wd) := Lib.hid (Frm.below (w := w) (bs := [(K, (.cells #[.int .i64 lo, .int .i64 (-s.rd), .int .i64 s.gh, .int .i64 s.hl, .int .i64 r.al, .int .i64 r.dl, .int .i64 0] 57)), (w1.heap.size, (spBox lo hi)), (w.heap.size + 1 + 1, (.cells #[.int .i64 0, .int .i64 0, .int .i64 0, .int .i64 0, .int .i64 0, .int .i64 0, .int .i64 0] 57)), (w.heap.size + 1, (rdBox r)), (w.heap.size, (stBox s (.slice A k c)))]) (show Frm w [(K, (.cells #[.int .i64 lo, .int .i64 (-s.rd), .int .i64 s.gh, .int .i64 s.hl, .int .i64 r.al, .int .i64 r.dl, .int .i64 0] 57)), (w1.heap.size, (spBox lo hi)), (w.heap.size + 1 + 1, (.cells #[.int .i64 0, .int .i64 0, .int .i64 0, .int .i64 0, .int .i64 0, .int .i64 0, .int .i64 0] 57)), (w.heap.size + 1, (rdBox r)), (w.heap.size, (stBox s (.slice A k c)))] _ from Frm.put HRb.out (by omega) (by simp <;> omega) 5 _) hb)
  clear hb
  clear d0 d1 d2 d3 d4 d5
  have d0 := HRd.out.cells (List.mem_cons_self ..)
  have d1 := HRd.out.free (List.mem_cons_self ..)
  have d2 := HRd.out.cells (List.mem_cons_of_mem _ (List.mem_cons_of_mem _ (List.mem_cons_of_mem _ (List.mem_cons_self ..))))
  have d3 := HRd.out.cells (List.mem_cons_of_mem _ (List.mem_cons_of_mem _ (List.mem_cons_of_mem _ (List.mem_cons_of_mem _ (List.mem_cons_self ..)))))
  have d4 := HRd.out.lt (List.mem_cons_self ..)
  have d5 := HRd.out.cells (List.mem_cons_of_mem _ (List.mem_cons_of_mem _ (List.mem_cons_self ..)))
  have d6 := HRd.out.free (List.mem_cons_of_mem _ (List.mem_cons_of_mem _ (List.mem_cons_self ..)))
  have d7 := HRd.out.lt (List.mem_cons_of_mem _ (List.mem_cons_of_mem _ (List.mem_cons_self ..)))
  go_wp2_with fail
  have u0 := (boxCells (heap_setCell_same (o := 6) (heap_setCell_same (o := 5) (heap_setCell_same (o := 4) (heap_setCell_same (o := 3) (heap_setCell_same (o := 2) (heap_setCell_same (o := 1) (heap_setCell_same (o := 0) (blk_set (HRd.out.h _ (List.mem_cons_of_mem _ (List.mem_cons_of_mem _ (List.mem_cons_self ..)))) (a := ⟨K, 6, none⟩) (by simp <;> omega) (.int .i64 r.wl)) (.int .i64 lo)) (.int .i64 (-s.rd))) (.int .i64 s.gh)) (.int .i64 s.hl)) (.int .i64 r.al)) (.int .i64 r.dl)) (.int .i64 r.wl))).1
  refine bodyPost_ret (v := trV ⟨lo, (-s.rd), s.gh, s.hl, r.al, r.dl, r.wl⟩) (by simp [results, Tryd.results39, go_sem, u0]) rfl ⟨by rw [HE.out], ?_⟩
  exact (below_set (below_set (below_set (below_set (below_set (below_set (below_set (below_set HRd.out.b (by simp <;> omega) _) (by simp <;> omega) _) (by simp <;> omega) _) (by simp <;> omega) _) (by simp <;> omega) _) (by simp <;> omega) _) (by simp <;> omega) _) (by simp <;> omega) _)

set_option maxHeartbeats 2000000 in
set_option maxRecDepth 100000 in
theorem rEnd_2 {s : Stn} {v : Value} {cs : List Chk} {r : Rdg} {w : World} (hc : Chks w v cs) (hg : Good s cs) (hr : r.Good) :
    Calls Tryd.prog 39 #[stV s v, rdV r, .int .i64 2] w fun e w' => e = .returned (trV (etF s cs r 2)) ∧ Below w.heap.size w w' := by
  obtain ⟨A, k, c, rfl⟩ := hc.shape
  have HR : Hid (Frm w [(w.heap.size + 1 + 1, (.cells #[.int .i64 0, .int .i64 0, .int .i64 0, .int .i64 0, .int .i64 0, .int .i64 0, .int .i64 0] 57)), (w.heap.size + 1, (rdBox r)), (w.heap.size, (stBox s (.slice A k c)))] (((w.alloc (stBox s (.slice A k c))).alloc (rdBox r)).alloc (.cells #[.int .i64 0, .int .i64 0, .int .i64 0, .int .i64 0, .int .i64 0, .int .i64 0, .int .i64 0] 57))) := Lib.hid ((((Frm.nil w).add _ (by simp)).add _ (by simp)).add _ (by simp))
  have HC := Lib.hid (hc.below HR.out.b)
  clear hc
  have r0 := hg.r0
  have r1 := hg.r1
  have HX : Hid (∀ W, Chks W (.slice A k c) cs → Calls Tryd.prog 22 #[stV s (.slice A k c), .int .i64 r.day] W fun x w' => x = .returned (spV (lowF s r.day cs) (highF s r.day cs)) ∧ Below W.heap.size W w') := Lib.hid (fun W h => rIndex_any h hg.sane hr.d0 hr.d1)
  have HE := Lib.hid (show trV (etF s cs r 2) = trV ⟨highF s r.day cs, s.rd, s.gl, s.hl, r.ah, r.dh, r.wl⟩ from rfl)
  generalize trV (etF s cs r 2) = res at *
  generalize lowF s r.day cs = lo at *
  generalize highF s r.day cs = hi at *
  go_enter Tryd.func39, Tryd.ntmps39
  go_wp2_with fail
  refine (HX.out _ HC.out).mono ?_
  rintro e w1 ⟨rfl, hb⟩
  have hz : w.heap.size + 1 + 1 < w1.heap.size := (HR.out.below hb).lt (List.mem_cons_self ..)
  have HR1 := Lib.hid ((HR.out.below hb).add (spBox lo hi) rfl)
  clear HR hb HC HX
  have HR := HR1
  clear HR1
  have c0 := HR.out.cells (List.mem_cons_self ..)
  have c2 := HR.out.cells (List.mem_cons_of_mem _ (List.mem_cons_of_mem _ (List.mem_cons_self ..)))
  have c3 := HR.out.cells (List.mem_cons_of_mem _ (List.mem_cons_of_mem _ (List.mem_cons_of_mem _ (List.mem_cons_self ..))))
  go_upto_region 3 with fail
  go_cut [9] (fun s9 wx => ∃ K : Nat, s9 = .pointer (some ⟨K, 0, none⟩) ∧ w.heap.size + 1 + 1 < K ∧ K ≠ w1.heap.size ∧ Frm w [(K, (.cells #[.int .i64 hi, .int .i64 s.rd, .int .i64 s.gl, .int .i64 0, .int .i64 r.ah, .int .i64 0, .int .i64 0] 57)), (w1.heap.size, (spBox lo hi)), (w.heap.size + 1 + 1, (.cells #[.int .i64 0, .int .i64 0, .int .i64 0, .int .i64 0, .int .i64 0, .int .i64 0, .int .i64 0] 57)), (w.heap.size + 1, (rdBox r)), (w.heap.size, (stBox s (.slice A k c)))] wx)
  case first =>
    go_region_held3 (fun w' => (∀ o, w'.cell? ⟨w1.heap.size, o, none⟩ = #[Value.int .i64 lo, .int .i64 hi][o]?) ∧ (∀ o, w'.cell? ⟨w.heap.size + 1, o, none⟩ = #[Value.int .i64 r.day, .int .i64 r.mi, .int .i64 r.cl, .int .i64 r.me, .int .i64 r.al, .int .i64 r.ah, .int .i64 r.dl, .int .i64 r.dh, .int .i64 r.wl, .int .i64 r.wh][o]?) ∧ (∀ o, w'.cell? ⟨w.heap.size, o, none⟩ = #[Value.int .i64 s.hl, .int .i64 s.hh, .int .i64 s.gl, .int .i64 s.gh, .int .i64 s.dr, .int .i64 s.rd, .int .i64 s.ea, .int .i64 s.sl, .slice A k c][o]?)) ((exact (fun hF : Frm w [(w1.heap.size, (spBox lo hi)), (w.heap.size + 1 + 1, (.cells #[.int .i64 0, .int .i64 0, .int .i64 0, .int .i64 0, .int .i64 0, .int .i64 0, .int .i64 0] 57)), (w.heap.size + 1, (rdBox r)), (w.heap.size, (stBox s (.slice A k c)))] _ => ⟨hF.cells (List.mem_cons_self ..), hF.cells (List.mem_cons_of_mem _ (List.mem_cons_of_mem _ (List.mem_cons_self ..))), hF.cells (List.mem_cons_of_mem _ (List.mem_cons_of_mem _ (List.mem_cons_of_mem _ (List.mem_cons_self ..))))⟩) (by (repeat (with_reducible first | exact HR.out | apply Frm.drew | apply Frm.alloc))))) ((go_at_call 67; (first | (with_reducible refine (rPick_hi _ _ _).mono ?_) | (with_reducible refine (rPick_lo _ _ _).mono ?_)); rintro e wa ⟨rfl, rfl⟩))
    all_goals
      go_wp2_with fail
      go_meet
      refine ⟨_, rfl, ?_, ?_, ⟨?_, fun p hp => ?_⟩⟩
      · simp <;> omega
      · simp <;> omega
      · (repeat (with_reducible first | exact HR.out.b | apply below_dr | apply below_al))
      · simp only [List.mem_cons, List.not_mem_nil, or_false] at hp
        rcases hp with rfl | rfl | rfl | rfl | rfl
        · (repeat (with_reducible first | exact heap_new _ _ (by simp) | apply blk_dr | apply blk_alloc))
        · (repeat (with_reducible first | exact HR.out.h _ (List.mem_cons_self ..) | apply blk_dr | apply blk_alloc))
        · (repeat (with_reducible first | exact HR.out.h _ (List.mem_cons_of_mem _ (List.mem_cons_self ..)) | apply blk_dr | apply blk_alloc))
        · (repeat (with_reducible first | exact HR.out.h _ (List.mem_cons_of_mem _ (List.mem_cons_of_mem _ (List.mem_cons_self ..))) | apply blk_dr | apply blk_alloc))
        · (repeat (with_reducible first | exact HR.out.h _ (List.mem_cons_of_mem _ (List.mem_cons_of_mem _ (List.mem_cons_of_mem _ (List.mem_cons_self ..)))) | apply blk_dr | apply blk_alloc))
  case rest =>
  obtain ⟨K, rfl, hK1, hK2, hF⟩ := hcut
  clear c0 c2 c3 HR
  have HR := Lib.hid hF
  clear hF
  have c0 := HR.out.cells (List.mem_cons_self ..)
  have f0 := HR.out.free (List.mem_cons_self ..)
  have c1 := HR.out.cells (List.mem_cons_of_mem _ (List.mem_cons_self ..))
  have c2 := HR.out.cells (List.mem_cons_of_mem _ (List.mem_cons_of_mem _ (List.mem_cons_of_mem _ (List.mem_cons_self ..))))
  have c3 := HR.out.cells (List.mem_cons_of_mem _ (List.mem_cons_of_mem _ (List.mem_cons_of_mem _ (List.mem_cons_of_mem _ (List.mem_cons_self ..)))))
  go_wp2_with fail
  refine (rPickB_lo _ _ _).mono ?_
  rintro e wa ⟨rfl, hb⟩
  have HRa : Hid (Frm w [(K, (.cells #[.int .i64 hi, .int .i64 s.rd, .int .i64 s.gl, .int .i64 0, .int .i64 r.ah, .int .i64 0, .int .i64 0] 57)), (w1.heap.size, (spBox lo hi)), (w.heap.size + 1 + 1, (.cells #[.int .i64 0, .int .i64 0, .int .i64 0, .int .i64 0, .int .i64 0, .int .i64 0, .int .i64 0] 57)), (w.heap.size + 1, (rdBox r)), (w.heap.size, (stBox s (.slice A k c)))] wa) := Lib.hid (Frm.below (w := w) (bs := [(K, (.cells #[.int .i64 hi, .int .i64 s.rd, .int .i64 s.gl, .int .i64 0, .int .i64 r.ah, .int .i64 0, .int .i64 0] 57)), (w1.heap.size, (spBox lo hi)), (w.heap.size + 1 + 1, (.cells #[.int .i64 0, .int .i64 0, .int .i64 0, .int .i64 0, .int .i64 0, .int .i64 0, .int .i64 0] 57)), (w.heap.size + 1, (rdBox r)), (w.heap.size, (stBox s (.slice A k c)))]) (by first | exact HR.out | exact HR.out.drew) hb)
  clear hb
  clear c0 f0 c1 c2 c3
  have d0 := HRa.out.cells (List.mem_cons_self ..)
  have d1 := HRa.out.free (List.mem_cons_self ..)
  have d2 := HRa.out.cells (List.mem_cons_of_mem _ (List.mem_cons_of_mem _ (List.mem_cons_of_mem _ (List.mem_cons_self ..))))
  have d3 := HRa.out.cells (List.mem_cons_of_mem _ (List.mem_cons_of_mem _ (List.mem_cons_of_mem _ (List.mem_cons_of_mem _ (List.mem_cons_self ..)))))
  have d4 := HRa.out.lt (List.mem_cons_self ..)
  have d5 := HRa.out.cells (List.mem_cons_of_mem _ (List.mem_cons_of_mem _ (List.mem_cons_self ..)))
  go_wp2_with fail
  refine (rPickB_hi _ _ _).mono ?_
  rintro e wb ⟨rfl, hb⟩
  have HRb : Hid (Frm w [(K, (.cells #[.int .i64 hi, .int .i64 s.rd, .int .i64 s.gl, .int .i64 s.hl, .int .i64 r.ah, .int .i64 0, .int .i64 0] 57)), (w1.heap.size, (spBox lo hi)), (w.heap.size + 1 + 1, (.cells #[.int .i64 0, .int .i64 0, .int .i64 0, .int .i64 0, .int .i64 0, .int .i64 0, .int .i64 0] 57)), (w.heap.size + 1, (rdBox r)), (w.heap.size, (stBox s (.slice A k c)))] wb) := Lib.hid (Frm.below (w := w) (bs := [(K, (.cells #[.int .i64 hi, .int .i64 s.rd, .int .i64 s.gl, .int .i64 s.hl, .int .i64 r.ah, .int .i64 0, .int .i64 0] 57)), (w1.heap.size, (spBox lo hi)), (w.heap.size + 1 + 1, (.cells #[.int .i64 0, .int .i64 0, .int .i64 0, .int .i64 0, .int .i64 0, .int .i64 0, .int .i64 0] 57)), (w.heap.size + 1, (rdBox r)), (w.heap.size, (stBox s (.slice A k c)))]) (show Frm w [(K, (.cells #[.int .i64 hi, .int .i64 s.rd, .int .i64 s.gl, .int .i64 s.hl, .int .i64 r.ah, .int .i64 0, .int .i64 0] 57)), (w1.heap.size, (spBox lo hi)), (w.heap.size + 1 + 1, (.cells #[.int .i64 0, .int .i64 0, .int .i64 0, .int .i64 0, .int .i64 0, .int .i64 0, .int .i64 0] 57)), (w.heap.size + 1, (rdBox r)), (w.heap.size, (stBox s (.slice A k c)))] _ from Frm.put HRa.out (by omega) (by simp <;> omega) 3 _) hb)
  clear hb
  clear d0 d1 d2 d3 d4 d5
  have d0 := HRb.out.cells (List.mem_cons_self ..)
  have d1 := HRb.out.free (List.mem_cons_self ..)
  have d2 := HRb.out.cells (List.mem_cons_of_mem _ (List.mem_cons_of_mem _ (List.mem_cons_of_mem _ (List.mem_cons_self ..))))
  have d3 := HRb.out.cells (List.mem_cons_of_mem _ (List.mem_cons_of_mem _ (List.mem_cons_of_mem _ (List.mem_cons_of_mem _ (List.mem_cons_self ..)))))
  have d4 := HRb.out.lt (List.mem_cons_self ..)
  have d5 := HRb.out.cells (List.mem_cons_of_mem _ (List.mem_cons_of_mem _ (List.mem_cons_self ..)))
  go_wp2_with fail
  refine (rPickB_lo _ _ _).mono ?_
  rintro e wd ⟨rfl, hb⟩
  have HRd : Hid (Frm w [(K, (.cells #[.int .i64 hi, .int .i64 s.rd, .int .i64 s.gl, .int .i64 s.hl, .int .i64 r.ah, .int .i64 r.dh, .int .i64 0] 57)), (w1.heap.size, (spBox lo hi)), (w.heap.size + 1 + 1, (.cells #[.int .i64 0, .int .i64 0, .int .i64 0, .int .i64 0, .int .i64 0, .int .i64 0, .int .i64 0] 57)), (w.heap.size + 1, (rdBox r)), (w.heap.size, (stBox s (.slice A k c)))] wd) := Lib.hid (Frm.below (w := w) (bs := [(K, (.cells #[.int .i64 hi, .int .i64 s.rd, .int .i64 s.gl, .int .i64 s.hl, .int .i64 r.ah, .int .i64 r.dh, .int .i64 0] 57)), (w1.heap.size, (spBox lo hi)), (w.heap.size + 1 + 1, (.cells #[.int .i64 0, .int .i64 0, .int .i64 0, .int .i64 0, .int .i64 0, .int .i64 0, .int .i64 0] 57)), (w.heap.size + 1, (rdBox r)), (w.heap.size, (stBox s (.slice A k c)))]) (show Frm w [(K, (.cells #[.int .i64 hi, .int .i64 s.rd, .int .i64 s.gl, .int .i64 s.hl, .int .i64 r.ah, .int .i64 r.dh, .int .i64 0] 57)), (w1.heap.size, (spBox lo hi)), (w.heap.size + 1 + 1, (.cells #[.int .i64 0, .int .i64 0, .int .i64 0, .int .i64 0, .int .i64 0, .int .i64 0, .int .i64 0] 57)), (w.heap.size + 1, (rdBox r)), (w.heap.size, (stBox s (.slice A k c)))] _ from Frm.put HRb.out (by omega) (by simp <;> omega) 5 _) hb)
  clear hb
  clear d0 d1 d2 d3 d4 d5
  have d0 := HRd.out.cells (List.mem_cons_self ..)
  have d1 := HRd.out.free (List.mem_cons_self ..)
  have d2 := HRd.out.cells (List.mem_cons_of_mem _ (List.mem_cons_of_mem _ (List.mem_cons_of_mem _ (List.mem_cons_self ..))))
  have d3 := HRd.out.cells (List.mem_cons_of_mem _ (List.mem_cons_of_mem _ (List.mem_cons_of_mem _ (List.mem_cons_of_mem _ (List.mem_cons_self ..)))))
  have d4 := HRd.out.lt (List.mem_cons_self ..)
  have d5 := HRd.out.cells (List.mem_cons_of_mem _ (List.mem_cons_of_mem _ (List.mem_cons_self ..)))
  have d6 := HRd.out.free (List.mem_cons_of_mem _ (List.mem_cons_of_mem _ (List.mem_cons_self ..)))
  have d7 := HRd.out.lt (List.mem_cons_of_mem _ (List.mem_cons_of_mem _ (List.mem_cons_self ..)))
  go_wp2_with fail
  have u0 := (boxCells (heap_setCell_same (o := 6) (heap_setCell_same (o := 5) (heap_setCell_same (o := 4) (heap_setCell_same (o := 3) (heap_setCell_same (o := 2) (heap_setCell_same (o := 1) (heap_setCell_same (o := 0) (blk_set (HRd.out.h _ (List.mem_cons_of_mem _ (List.mem_cons_of_mem _ (List.mem_cons_self ..)))) (a := ⟨K, 6, none⟩) (by simp <;> omega) (.int .i64 r.wl)) (.int .i64 hi)) (.int .i64 s.rd)) (.int .i64 s.gl)) (.int .i64 s.hl)) (.int .i64 r.ah)) (.int .i64 r.dh)) (.int .i64 r.wl))).1
  refine bodyPost_ret (v := trV ⟨hi, s.rd, s.gl, s.hl, r.ah, r.dh, r.wl⟩) (by simp [results, Tryd.results39, go_sem, u0]) rfl ⟨by rw [HE.out], ?_⟩
  exact (below_set (below_set (below_set (below_set (below_set (below_set (below_set (below_set HRd.out.b (by simp <;> omega) _) (by simp <;> omega) _) (by simp <;> omega) _) (by simp <;> omega) _) (by simp <;> omega) _) (by simp <;> omega) _) (by simp <;> omega) _) (by simp <;> omega) _)

set_option maxHeartbeats 2000000 in
set_option maxRecDepth 100000 in
theorem rEnd_3 {s : Stn} {v : Value} {cs : List Chk} {r : Rdg} {w : World} (hc : Chks w v cs) (hg : Good s cs) (hr : r.Good) :
    Calls Tryd.prog 39 #[stV s v, rdV r, .int .i64 3] w fun e w' => e = .returned (trV (etF s cs r 3)) ∧ Below w.heap.size w w' := by
  obtain ⟨A, k, c, rfl⟩ := hc.shape
  have HR : Hid (Frm w [(w.heap.size + 1 + 1, (.cells #[.int .i64 0, .int .i64 0, .int .i64 0, .int .i64 0, .int .i64 0, .int .i64 0, .int .i64 0] 57)), (w.heap.size + 1, (rdBox r)), (w.heap.size, (stBox s (.slice A k c)))] (((w.alloc (stBox s (.slice A k c))).alloc (rdBox r)).alloc (.cells #[.int .i64 0, .int .i64 0, .int .i64 0, .int .i64 0, .int .i64 0, .int .i64 0, .int .i64 0] 57))) := Lib.hid ((((Frm.nil w).add _ (by simp)).add _ (by simp)).add _ (by simp))
  have HC := Lib.hid (hc.below HR.out.b)
  clear hc
  have r0 := hg.r0
  have r1 := hg.r1
  have HX : Hid (∀ W, Chks W (.slice A k c) cs → Calls Tryd.prog 22 #[stV s (.slice A k c), .int .i64 r.day] W fun x w' => x = .returned (spV (lowF s r.day cs) (highF s r.day cs)) ∧ Below W.heap.size W w') := Lib.hid (fun W h => rIndex_any h hg.sane hr.d0 hr.d1)
  have HE := Lib.hid (show trV (etF s cs r 3) = trV ⟨lowF s r.day cs, (-s.rd), s.gh, s.hh, r.al, r.dl, r.wl⟩ from rfl)
  generalize trV (etF s cs r 3) = res at *
  generalize lowF s r.day cs = lo at *
  generalize highF s r.day cs = hi at *
  go_enter Tryd.func39, Tryd.ntmps39
  go_wp2_with fail
  refine (HX.out _ HC.out).mono ?_
  rintro e w1 ⟨rfl, hb⟩
  have hz : w.heap.size + 1 + 1 < w1.heap.size := (HR.out.below hb).lt (List.mem_cons_self ..)
  have HR1 := Lib.hid ((HR.out.below hb).add (spBox lo hi) rfl)
  clear HR hb HC HX
  have HR := HR1
  clear HR1
  have c0 := HR.out.cells (List.mem_cons_self ..)
  have c2 := HR.out.cells (List.mem_cons_of_mem _ (List.mem_cons_of_mem _ (List.mem_cons_self ..)))
  have c3 := HR.out.cells (List.mem_cons_of_mem _ (List.mem_cons_of_mem _ (List.mem_cons_of_mem _ (List.mem_cons_self ..))))
  go_upto_region 3 with fail
  go_cut [9] (fun s9 wx => ∃ K : Nat, s9 = .pointer (some ⟨K, 0, none⟩) ∧ w.heap.size + 1 + 1 < K ∧ K ≠ w1.heap.size ∧ Frm w [(K, (.cells #[.int .i64 lo, .int .i64 s.rd, .int .i64 s.gh, .int .i64 0, .int .i64 r.al, .int .i64 0, .int .i64 0] 57)), (w1.heap.size, (spBox lo hi)), (w.heap.size + 1 + 1, (.cells #[.int .i64 0, .int .i64 0, .int .i64 0, .int .i64 0, .int .i64 0, .int .i64 0, .int .i64 0] 57)), (w.heap.size + 1, (rdBox r)), (w.heap.size, (stBox s (.slice A k c)))] wx)
  case first =>
    go_region_held3 (fun w' => (∀ o, w'.cell? ⟨w1.heap.size, o, none⟩ = #[Value.int .i64 lo, .int .i64 hi][o]?) ∧ (∀ o, w'.cell? ⟨w.heap.size + 1, o, none⟩ = #[Value.int .i64 r.day, .int .i64 r.mi, .int .i64 r.cl, .int .i64 r.me, .int .i64 r.al, .int .i64 r.ah, .int .i64 r.dl, .int .i64 r.dh, .int .i64 r.wl, .int .i64 r.wh][o]?) ∧ (∀ o, w'.cell? ⟨w.heap.size, o, none⟩ = #[Value.int .i64 s.hl, .int .i64 s.hh, .int .i64 s.gl, .int .i64 s.gh, .int .i64 s.dr, .int .i64 s.rd, .int .i64 s.ea, .int .i64 s.sl, .slice A k c][o]?)) ((exact (fun hF : Frm w [(w1.heap.size, (spBox lo hi)), (w.heap.size + 1 + 1, (.cells #[.int .i64 0, .int .i64 0, .int .i64 0, .int .i64 0, .int .i64 0, .int .i64 0, .int .i64 0] 57)), (w.heap.size + 1, (rdBox r)), (w.heap.size, (stBox s (.slice A k c)))] _ => ⟨hF.cells (List.mem_cons_self ..), hF.cells (List.mem_cons_of_mem _ (List.mem_cons_of_mem _ (List.mem_cons_self ..))), hF.cells (List.mem_cons_of_mem _ (List.mem_cons_of_mem _ (List.mem_cons_of_mem _ (List.mem_cons_self ..))))⟩) (by (repeat (with_reducible first | exact HR.out | apply Frm.drew | apply Frm.alloc))))) ((go_at_call 67; (first | (with_reducible refine (rPick_hi _ _ _).mono ?_) | (with_reducible refine (rPick_lo _ _ _).mono ?_)); rintro e wa ⟨rfl, rfl⟩))
    all_goals
      go_wp2_with fail
      go_meet
      refine ⟨_, rfl, ?_, ?_, ⟨?_, fun p hp => ?_⟩⟩
      · simp <;> omega
      · simp <;> omega
      · (repeat (with_reducible first | exact HR.out.b | apply below_dr | apply below_al))
      · simp only [List.mem_cons, List.not_mem_nil, or_false] at hp
        rcases hp with rfl | rfl | rfl | rfl | rfl
        · (repeat (with_reducible first | exact heap_new _ _ (by simp) | apply blk_dr | apply blk_alloc))
        · (repeat (with_reducible first | exact HR.out.h _ (List.mem_cons_self ..) | apply blk_dr | apply blk_alloc))
        · (repeat (with_reducible first | exact HR.out.h _ (List.mem_cons_of_mem _ (List.mem_cons_self ..)) | apply blk_dr | apply blk_alloc))
        · (repeat (with_reducible first | exact HR.out.h _ (List.mem_cons_of_mem _ (List.mem_cons_of_mem _ (List.mem_cons_self ..))) | apply blk_dr | apply blk_alloc))
        · (repeat (with_reducible first | exact HR.out.h _ (List.mem_cons_of_mem _ (List.mem_cons_of_mem _ (List.mem_cons_of_mem _ (List.mem_cons_self ..)))) | apply blk_dr | apply blk_alloc))
  case rest =>
  obtain ⟨K, rfl, hK1, hK2, hF⟩ := hcut
  clear c0 c2 c3 HR
  have HR := Lib.hid hF
  clear hF
  have c0 := HR.out.cells (List.mem_cons_self ..)
  have f0 := HR.out.free (List.mem_cons_self ..)
  have c1 := HR.out.cells (List.mem_cons_of_mem _ (List.mem_cons_self ..))
  have c2 := HR.out.cells (List.mem_cons_of_mem _ (List.mem_cons_of_mem _ (List.mem_cons_of_mem _ (List.mem_cons_self ..))))
  have c3 := HR.out.cells (List.mem_cons_of_mem _ (List.mem_cons_of_mem _ (List.mem_cons_of_mem _ (List.mem_cons_of_mem _ (List.mem_cons_self ..)))))
  go_wp2_with fail
  refine (rPickB_hi _ _ _).mono ?_
  rintro e wa ⟨rfl, hb⟩
  have HRa : Hid (Frm w [(K, (.cells #[.int .i64 lo, .int .i64 (-s.rd), .int .i64 s.gh, .int .i64 0, .int .i64 r.al, .int .i64 0, .int .i64 0] 57)), (w1.heap.size, (spBox lo hi)), (w.heap.size + 1 + 1, (.cells #[.int .i64 0, .int .i64 0, .int .i64 0, .int .i64 0, .int .i64 0, .int .i64 0, .int .i64 0] 57)), (w.heap.size + 1, (rdBox r)), (w.heap.size, (stBox s (.slice A k c)))] wa) := Lib.hid (Frm.below (w := w) (bs := [(K, (.cells #[.int .i64 lo, .int .i64 (-s.rd), .int .i64 s.gh, .int .i64 0, .int .i64 r.al, .int .i64 0, .int .i64 0] 57)), (w1.heap.size, (spBox lo hi)), (w.heap.size + 1 + 1, (.cells #[.int .i64 0, .int .i64 0, .int .i64 0, .int .i64 0, .int .i64 0, .int .i64 0, .int .i64 0] 57)), (w.heap.size + 1, (rdBox r)), (w.heap.size, (stBox s (.slice A k c)))]) (show Frm w [(K, (.cells #[.int .i64 lo, .int .i64 (-s.rd), .int .i64 s.gh, .int .i64 0, .int .i64 r.al, .int .i64 0, .int .i64 0] 57)), (w1.heap.size, (spBox lo hi)), (w.heap.size + 1 + 1, (.cells #[.int .i64 0, .int .i64 0, .int .i64 0, .int .i64 0, .int .i64 0, .int .i64 0, .int .i64 0] 57)), (w.heap.size + 1, (rdBox r)), (w.heap.size, (stBox s (.slice A k c)))] _ from Frm.put HR.out (by omega) (by simp <;> omega) 1 _) hb)
  clear hb
  clear c0 f0 c1 c2 c3
  have d0 := HRa.out.cells (List.mem_cons_self ..)
  have d1 := HRa.out.free (List.mem_cons_self ..)
  have d2 := HRa.out.cells (List.mem_cons_of_mem _ (List.mem_cons_of_mem _ (List.mem_cons_of_mem _ (List.mem_cons_self ..))))
  have d3 := HRa.out.cells (List.mem_cons_of_mem _ (List.mem_cons_of_mem _ (List.mem_cons_of_mem _ (List.mem_cons_of_mem _ (List.mem_cons_self ..)))))
  have d4 := HRa.out.lt (List.mem_cons_self ..)
  have d5 := HRa.out.cells (List.mem_cons_of_mem _ (List.mem_cons_of_mem _ (List.mem_cons_self ..)))
  go_wp2_with fail
  refine (rPickB_lo _ _ _).mono ?_
  rintro e wb ⟨rfl, hb⟩
  have HRb : Hid (Frm w [(K, (.cells #[.int .i64 lo, .int .i64 (-s.rd), .int .i64 s.gh, .int .i64 s.hh, .int .i64 r.al, .int .i64 0, .int .i64 0] 57)), (w1.heap.size, (spBox lo hi)), (w.heap.size + 1 + 1, (.cells #[.int .i64 0, .int .i64 0, .int .i64 0, .int .i64 0, .int .i64 0, .int .i64 0, .int .i64 0] 57)), (w.heap.size + 1, (rdBox r)), (w.heap.size, (stBox s (.slice A k c)))] wb) := Lib.hid (Frm.below (w := w) (bs := [(K, (.cells #[.int .i64 lo, .int .i64 (-s.rd), .int .i64 s.gh, .int .i64 s.hh, .int .i64 r.al, .int .i64 0, .int .i64 0] 57)), (w1.heap.size, (spBox lo hi)), (w.heap.size + 1 + 1, (.cells #[.int .i64 0, .int .i64 0, .int .i64 0, .int .i64 0, .int .i64 0, .int .i64 0, .int .i64 0] 57)), (w.heap.size + 1, (rdBox r)), (w.heap.size, (stBox s (.slice A k c)))]) (show Frm w [(K, (.cells #[.int .i64 lo, .int .i64 (-s.rd), .int .i64 s.gh, .int .i64 s.hh, .int .i64 r.al, .int .i64 0, .int .i64 0] 57)), (w1.heap.size, (spBox lo hi)), (w.heap.size + 1 + 1, (.cells #[.int .i64 0, .int .i64 0, .int .i64 0, .int .i64 0, .int .i64 0, .int .i64 0, .int .i64 0] 57)), (w.heap.size + 1, (rdBox r)), (w.heap.size, (stBox s (.slice A k c)))] _ from Frm.put HRa.out (by omega) (by simp <;> omega) 3 _) hb)
  clear hb
  clear d0 d1 d2 d3 d4 d5
  have d0 := HRb.out.cells (List.mem_cons_self ..)
  have d1 := HRb.out.free (List.mem_cons_self ..)
  have d2 := HRb.out.cells (List.mem_cons_of_mem _ (List.mem_cons_of_mem _ (List.mem_cons_of_mem _ (List.mem_cons_self ..))))
  have d3 := HRb.out.cells (List.mem_cons_of_mem _ (List.mem_cons_of_mem _ (List.mem_cons_of_mem _ (List.mem_cons_of_mem _ (List.mem_cons_self ..)))))
  have d4 := HRb.out.lt (List.mem_cons_self ..)
  have d5 := HRb.out.cells (List.mem_cons_of_mem _ (List.mem_cons_of_mem _ (List.mem_cons_self ..)))
  go_wp2_with fail
  refine (rPickB_lo _ _ _).mono ?_
  rintro e wd ⟨rfl, hb⟩
  have HRd : Hid (Frm w [(K, (.cells #[.int .i64 lo, .int .i64 (-s.rd), .int .i64 s.gh, .int .i64 s.hh, .int .i64 r.al, .int .i64 r.dl, .int .i64 0] 57)), (w1.heap.size, (spBox lo hi)), (w.heap.size + 1 + 1, (.cells #[.int .i64 0, .int .i64 0, .int .i64 0, .int .i64 0, .int .i64 0, .int .i64 0, .int .i64 0] 57)), (w.heap.size + 1, (rdBox r)), (w.heap.size, (stBox s (.slice A k c)))] wd) := Lib.hid (Frm.below (w := w) (bs := [(K, (.cells #[.int .i64 lo, .int .i64 (-s.rd), .int .i64 s.gh, .int .i64 s.hh, .int .i64 r.al, .int .i64 r.dl, .int .i64 0] 57)), (w1.heap.size, (spBox lo hi)), (w.heap.size + 1 + 1, (.cells #[.int .i64 0, .int .i64 0, .int .i64 0, .int .i64 0, .int .i64 0, .int .i64 0, .int .i64 0] 57)), (w.heap.size + 1, (rdBox r)), (w.heap.size, (stBox s (.slice A k c)))]) (show Frm w [(K, (.cells #[.int .i64 lo, .int .i64 (-s.rd), .int .i64 s.gh, .int .i64 s.hh, .int .i64 r.al, .int .i64 r.dl, .int .i64 0] 57)), (w1.heap.size, (spBox lo hi)), (w.heap.size + 1 + 1, (.cells #[.int .i64 0, .int .i64 0, .int .i64 0, .int .i64 0, .int .i64 0, .int .i64 0, .int .i64 0] 57)), (w.heap.size + 1, (rdBox r)), (w.heap.size, (stBox s (.slice A k c)))] _ from Frm.put HRb.out (by omega) (by simp <;> omega) 5 _) hb)
  clear hb
  clear d0 d1 d2 d3 d4 d5
  have d0 := HRd.out.cells (List.mem_cons_self ..)
  have d1 := HRd.out.free (List.mem_cons_self ..)
  have d2 := HRd.out.cells (List.mem_cons_of_mem _ (List.mem_cons_of_mem _ (List.mem_cons_of_mem _ (List.mem_cons_self ..))))
  have d3 := HRd.out.cells (List.mem_cons_of_mem _ (List.mem_cons_of_mem _ (List.mem_cons_of_mem _ (List.mem_cons_of_mem _ (List.mem_cons_self ..)))))
  have d4 := HRd.out.lt (List.mem_cons_self ..)
  have d5 := HRd.out.cells (List.mem_cons_of_mem _ (List.mem_cons_of_mem _ (List.mem_cons_self ..)))
  have d6 := HRd.out.free (List.mem_cons_of_mem _ (List.mem_cons_of_mem _ (List.mem_cons_self ..)))
  have d7 := HRd.out.lt (List.mem_cons_of_mem _ (List.mem_cons_of_mem _ (List.mem_cons_self ..)))
  go_wp2_with fail
  have u0 := (boxCells (heap_setCell_same (o := 6) (heap_setCell_same (o := 5) (heap_setCell_same (o := 4) (heap_setCell_same (o := 3) (heap_setCell_same (o := 2) (heap_setCell_same (o := 1) (heap_setCell_same (o := 0) (blk_set (HRd.out.h _ (List.mem_cons_of_mem _ (List.mem_cons_of_mem _ (List.mem_cons_self ..)))) (a := ⟨K, 6, none⟩) (by simp <;> omega) (.int .i64 r.wl)) (.int .i64 lo)) (.int .i64 (-s.rd))) (.int .i64 s.gh)) (.int .i64 s.hh)) (.int .i64 r.al)) (.int .i64 r.dl)) (.int .i64 r.wl))).1
  refine bodyPost_ret (v := trV ⟨lo, (-s.rd), s.gh, s.hh, r.al, r.dl, r.wl⟩) (by simp [results, Tryd.results39, go_sem, u0]) rfl ⟨by rw [HE.out], ?_⟩
  exact (below_set (below_set (below_set (below_set (below_set (below_set (below_set (below_set HRd.out.b (by simp <;> omega) _) (by simp <;> omega) _) (by simp <;> omega) _) (by simp <;> omega) _) (by simp <;> omega) _) (by simp <;> omega) _) (by simp <;> omega) _) (by simp <;> omega) _)

set_option maxHeartbeats 2000000 in
set_option maxRecDepth 100000 in
theorem rEnd_4 {s : Stn} {v : Value} {cs : List Chk} {r : Rdg} {w : World} (hc : Chks w v cs) (hg : Good s cs) (hr : r.Good) :
    Calls Tryd.prog 39 #[stV s v, rdV r, .int .i64 4] w fun e w' => e = .returned (trV (etF s cs r 4)) ∧ Below w.heap.size w w' := by
  obtain ⟨A, k, c, rfl⟩ := hc.shape
  have HR : Hid (Frm w [(w.heap.size + 1 + 1, (.cells #[.int .i64 0, .int .i64 0, .int .i64 0, .int .i64 0, .int .i64 0, .int .i64 0, .int .i64 0] 57)), (w.heap.size + 1, (rdBox r)), (w.heap.size, (stBox s (.slice A k c)))] (((w.alloc (stBox s (.slice A k c))).alloc (rdBox r)).alloc (.cells #[.int .i64 0, .int .i64 0, .int .i64 0, .int .i64 0, .int .i64 0, .int .i64 0, .int .i64 0] 57))) := Lib.hid ((((Frm.nil w).add _ (by simp)).add _ (by simp)).add _ (by simp))
  have HC := Lib.hid (hc.below HR.out.b)
  clear hc
  have r0 := hg.r0
  have r1 := hg.r1
  have HX : Hid (∀ W, Chks W (.slice A k c) cs → Calls Tryd.prog 22 #[stV s (.slice A k c), .int .i64 r.day] W fun x w' => x = .returned (spV (lowF s r.day cs) (highF s r.day cs)) ∧ Below W.heap.size W w') := Lib.hid (fun W h => rIndex_any h hg.sane hr.d0 hr.d1)
  have HE := Lib.hid (show trV (etF s cs r 4) = trV ⟨lowF s r.day cs, (-s.rd), s.gh, s.hl, r.al, r.dh, r.wl⟩ from rfl)
  generalize trV (etF s cs r 4) = res at *
  generalize lowF s r.day cs = lo at *
  generalize highF s r.day cs = hi at *
  go_enter Tryd.func39, Tryd.ntmps39
  go_wp2_with fail
  refine (HX.out _ HC.out).mono ?_
  rintro e w1 ⟨rfl, hb⟩
  have hz : w.heap.size + 1 + 1 < w1.heap.size := (HR.out.below hb).lt (List.mem_cons_self ..)
  have HR1 := Lib.hid ((HR.out.below hb).add (spBox lo hi) rfl)
  clear HR hb HC HX
  have HR := HR1
  clear HR1
  have c0 := HR.out.cells (List.mem_cons_self ..)
  have c2 := HR.out.cells (List.mem_cons_of_mem _ (List.mem_cons_of_mem _ (List.mem_cons_self ..)))
  have c3 := HR.out.cells (List.mem_cons_of_mem _ (List.mem_cons_of_mem _ (List.mem_cons_of_mem _ (List.mem_cons_self ..))))
  go_upto_region 3 with fail
  go_cut [9] (fun s9 wx => ∃ K : Nat, s9 = .pointer (some ⟨K, 0, none⟩) ∧ w.heap.size + 1 + 1 < K ∧ K ≠ w1.heap.size ∧ Frm w [(K, (.cells #[.int .i64 lo, .int .i64 s.rd, .int .i64 s.gh, .int .i64 0, .int .i64 r.al, .int .i64 0, .int .i64 0] 57)), (w1.heap.size, (spBox lo hi)), (w.heap.size + 1 + 1, (.cells #[.int .i64 0, .int .i64 0, .int .i64 0, .int .i64 0, .int .i64 0, .int .i64 0, .int .i64 0] 57)), (w.heap.size + 1, (rdBox r)), (w.heap.size, (stBox s (.slice A k c)))] wx)
  case first =>
    go_region_held3 (fun w' => (∀ o, w'.cell? ⟨w1.heap.size, o, none⟩ = #[Value.int .i64 lo, .int .i64 hi][o]?) ∧ (∀ o, w'.cell? ⟨w.heap.size + 1, o, none⟩ = #[Value.int .i64 r.day, .int .i64 r.mi, .int .i64 r.cl, .int .i64 r.me, .int .i64 r.al, .int .i64 r.ah, .int .i64 r.dl, .int .i64 r.dh, .int .i64 r.wl, .int .i64 r.wh][o]?) ∧ (∀ o, w'.cell? ⟨w.heap.size, o, none⟩ = #[Value.int .i64 s.hl, .int .i64 s.hh, .int .i64 s.gl, .int .i64 s.gh, .int .i64 s.dr, .int .i64 s.rd, .int .i64 s.ea, .int .i64 s.sl, .slice A k c][o]?)) ((exact (fun hF : Frm w [(w1.heap.size, (spBox lo hi)), (w.heap.size + 1 + 1, (.cells #[.int .i64 0, .int .i64 0, .int .i64 0, .int .i64 0, .int .i64 0, .int .i64 0, .int .i64 0] 57)), (w.heap.size + 1, (rdBox r)), (w.heap.size, (stBox s (.slice A k c)))] _ => ⟨hF.cells (List.mem_cons_self ..), hF.cells (List.mem_cons_of_mem _ (List.mem_cons_of_mem _ (List.mem_cons_self ..))), hF.cells (List.mem_cons_of_mem _ (List.mem_cons_of_mem _ (List.mem_cons_of_mem _ (List.mem_cons_self ..))))⟩) (by (repeat (with_reducible first | exact HR.out | apply Frm.drew | apply Frm.alloc))))) ((go_at_call 67; (first | (with_reducible refine (rPick_hi _ _ _).mono ?_) | (with_reducible refine (rPick_lo _ _ _).mono ?_)); rintro e wa ⟨rfl, rfl⟩))
    all_goals
      go_wp2_with fail
      go_meet
      refine ⟨_, rfl, ?_, ?_, ⟨?_, fun p hp => ?_⟩⟩
      · simp <;> omega
      · simp <;> omega
      · (repeat (with_reducible first | exact HR.out.b | apply below_dr | apply below_al))
      · simp only [List.mem_cons, List.not_mem_nil, or_false] at hp
        rcases hp with rfl | rfl | rfl | rfl | rfl
        · (repeat (with_reducible first | exact heap_new _ _ (by simp) | apply blk_dr | apply blk_alloc))
        · (repeat (with_reducible first | exact HR.out.h _ (List.mem_cons_self ..) | apply blk_dr | apply blk_alloc))
        · (repeat (with_reducible first | exact HR.out.h _ (List.mem_cons_of_mem _ (List.mem_cons_self ..)) | apply blk_dr | apply blk_alloc))
        · (repeat (with_reducible first | exact HR.out.h _ (List.mem_cons_of_mem _ (List.mem_cons_of_mem _ (List.mem_cons_self ..))) | apply blk_dr | apply blk_alloc))
        · (repeat (with_reducible first | exact HR.out.h _ (List.mem_cons_of_mem _ (List.mem_cons_of_mem _ (List.mem_cons_of_mem _ (List.mem_cons_self ..)))) | apply blk_dr | apply blk_alloc))
  case rest =>
  obtain ⟨K, rfl, hK1, hK2, hF⟩ := hcut
  clear c0 c2 c3 HR
  have HR := Lib.hid hF
  clear hF
  have c0 := HR.out.cells (List.mem_cons_self ..)
  have f0 := HR.out.free (List.mem_cons_self ..)
  have c1 := HR.out.cells (List.mem_cons_of_mem _ (List.mem_cons_self ..))
  have c2 := HR.out.cells (List.mem_cons_of_mem _ (List.mem_cons_of_mem _ (List.mem_cons_of_mem _ (List.mem_cons_self ..))))
  have c3 := HR.out.cells (List.mem_cons_of_mem _ (List.mem_cons_of_mem _ (List.mem_cons_of_mem _ (List.mem_cons_of_mem _ (List.mem_cons_self ..)))))
  go_wp2_with fail
  refine (rPickB_lo _ _ _).mono ?_
  rintro e wa ⟨rfl, hb⟩
  have HRa : Hid (Frm w [(K, (.cells #[.int .i64 lo, .int .i64 (-s.rd), .int .i64 s.gh, .int .i64 0, .int .i64 r.al, .int .i64 0, .int .i64 0] 57)), (w1.heap.size, (spBox lo hi)), (w.heap.size + 1 + 1, (.cells #[.int .i64 0, .int .i64 0, .int .i64 0, .int .i64 0, .int .i64 0, .int .i64 0, .int .i64 0] 57)), (w.heap.size + 1, (rdBox r)), (w.heap.size, (stBox s (.slice A k c)))] wa) := Lib.hid (Frm.below (w := w) (bs := [(K, (.cells #[.int .i64 lo, .int .i64 (-s.rd), .int .i64 s.gh, .int .i64 0, .int .i64 r.al, .int .i64 0, .int .i64 0] 57)), (w1.heap.size, (spBox lo hi)), (w.heap.size + 1 + 1, (.cells #[.int .i64 0, .int .i64 0, .int .i64 0, .int .i64 0, .int .i64 0, .int .i64 0, .int .i64 0] 57)), (w.heap.size + 1, (rdBox r)), (w.heap.size, (stBox s (.slice A k c)))]) (show Frm w [(K, (.cells #[.int .i64 lo, .int .i64 (-s.rd), .int .i64 s.gh, .int .i64 0, .int .i64 r.al, .int .i64 0, .int .i64 0] 57)), (w1.heap.size, (spBox lo hi)), (w.heap.size + 1 + 1, (.cells #[.int .i64 0, .int .i64 0, .int .i64 0, .int .i64 0, .int .i64 0, .int .i64 0, .int .i64 0] 57)), (w.heap.size + 1, (rdBox r)), (w.heap.size, (stBox s (.slice A k c)))] _ from Frm.put HR.out (by omega) (by simp <;> omega) 1 _) hb)
  clear hb
  clear c0 f0 c1 c2 c3
  have d0 := HRa.out.cells (List.mem_cons_self ..)
  have d1 := HRa.out.free (List.mem_cons_self ..)
  have d2 := HRa.out.cells (List.mem_cons_of_mem _ (List.mem_cons_of_mem _ (List.mem_cons_of_mem _ (List.mem_cons_self ..))))
  have d3 := HRa.out.cells (List.mem_cons_of_mem _ (List.mem_cons_of_mem _ (List.mem_cons_of_mem _ (List.mem_cons_of_mem _ (List.mem_cons_self ..)))))
  have d4 := HRa.out.lt (List.mem_cons_self ..)
  have d5 := HRa.out.cells (List.mem_cons_of_mem _ (List.mem_cons_of_mem _ (List.mem_cons_self ..)))
  go_wp2_with fail
  refine (rPickB_hi _ _ _).mono ?_
  rintro e wb ⟨rfl, hb⟩
  have HRb : Hid (Frm w [(K, (.cells #[.int .i64 lo, .int .i64 (-s.rd), .int .i64 s.gh, .int .i64 s.hl, .int .i64 r.al, .int .i64 0, .int .i64 0] 57)), (w1.heap.size, (spBox lo hi)), (w.heap.size + 1 + 1, (.cells #[.int .i64 0, .int .i64 0, .int .i64 0, .int .i64 0, .int .i64 0, .int .i64 0, .int .i64 0] 57)), (w.heap.size + 1, (rdBox r)), (w.heap.size, (stBox s (.slice A k c)))] wb) := Lib.hid (Frm.below (w := w) (bs := [(K, (.cells #[.int .i64 lo, .int .i64 (-s.rd), .int .i64 s.gh, .int .i64 s.hl, .int .i64 r.al, .int .i64 0, .int .i64 0] 57)), (w1.heap.size, (spBox lo hi)), (w.heap.size + 1 + 1, (.cells #[.int .i64 0, .int .i64 0, .int .i64 0, .int .i64 0, .int .i64 0, .int .i64 0, .int .i64 0] 57)), (w.heap.size + 1, (rdBox r)), (w.heap.size, (stBox s (.slice A k c)))]) (show Frm w [(K, (.cells #[.int .i64 lo, .int .i64 (-s.rd), .int .i64 s.gh, .int .i64 s.hl, .int .i64 r.al, .int .i64 0, .int .i64 0] 57)), (w1.heap.size, (spBox lo hi)), (w.heap.size + 1 + 1, (.cells #[.int .i64 0, .int .i64 0, .int .i64 0, .int .i64 0, .int .i64 0, .int .i64 0, .int .i64 0] 57)), (w.heap.size + 1, (rdBox r)), (w.heap.size, (stBox s (.slice A k c)))] _ from Frm.put HRa.out (by omega) (by simp <;> omega) 3 _) hb)
  clear hb
  clear d0 d1 d2 d3 d4 d5
  have d0 := HRb.out.cells (List.mem_cons_self ..)
  have d1 := HRb.out.free (List.mem_cons_self ..)
  have d2 := HRb.out.cells (List.mem_cons_of_mem _ (List.mem_cons_of_mem _ (List.mem_cons_of_mem _ (List.mem_cons_self ..))))
  have d3 := HRb.out.cells (List.mem_cons_of_mem _ (List.mem_cons_of_mem _ (List.mem_cons_of_mem _ (List.mem_cons_of_mem _ (List.mem_cons_self ..)))))
  have d4 := HRb.out.lt (List.mem_cons_self ..)
  have d5 := HRb.out.cells (List.mem_cons_of_mem _ (List.mem_cons_of_mem _ (List.mem_cons_self ..)))
  go_wp2_with fail
  refine (rPickB_lo _ _ _).mono ?_
  rintro e wd ⟨rfl, hb⟩
  have HRd : Hid (Frm w [(K, (.cells #[.int .i64 lo, .int .i64 (-s.rd), .int .i64 s.gh, .int .i64 s.hl, .int .i64 r.al, .int .i64 r.dh, .int .i64 0] 57)), (w1.heap.size, (spBox lo hi)), (w.heap.size + 1 + 1, (.cells #[.int .i64 0, .int .i64 0, .int .i64 0, .int .i64 0, .int .i64 0, .int .i64 0, .int .i64 0] 57)), (w.heap.size + 1, (rdBox r)), (w.heap.size, (stBox s (.slice A k c)))] wd) := Lib.hid (Frm.below (w := w) (bs := [(K, (.cells #[.int .i64 lo, .int .i64 (-s.rd), .int .i64 s.gh, .int .i64 s.hl, .int .i64 r.al, .int .i64 r.dh, .int .i64 0] 57)), (w1.heap.size, (spBox lo hi)), (w.heap.size + 1 + 1, (.cells #[.int .i64 0, .int .i64 0, .int .i64 0, .int .i64 0, .int .i64 0, .int .i64 0, .int .i64 0] 57)), (w.heap.size + 1, (rdBox r)), (w.heap.size, (stBox s (.slice A k c)))]) (show Frm w [(K, (.cells #[.int .i64 lo, .int .i64 (-s.rd), .int .i64 s.gh, .int .i64 s.hl, .int .i64 r.al, .int .i64 r.dh, .int .i64 0] 57)), (w1.heap.size, (spBox lo hi)), (w.heap.size + 1 + 1, (.cells #[.int .i64 0, .int .i64 0, .int .i64 0, .int .i64 0, .int .i64 0, .int .i64 0, .int .i64 0] 57)), (w.heap.size + 1, (rdBox r)), (w.heap.size, (stBox s (.slice A k c)))] _ from Frm.put HRb.out (by omega) (by simp <;> omega) 5 _) hb)
  clear hb
  clear d0 d1 d2 d3 d4 d5
  have d0 := HRd.out.cells (List.mem_cons_self ..)
  have d1 := HRd.out.free (List.mem_cons_self ..)
  have d2 := HRd.out.cells (List.mem_cons_of_mem _ (List.mem_cons_of_mem _ (List.mem_cons_of_mem _ (List.mem_cons_self ..))))
  have d3 := HRd.out.cells (List.mem_cons_of_mem _ (List.mem_cons_of_mem _ (List.mem_cons_of_mem _ (List.mem_cons_of_mem _ (List.mem_cons_self ..)))))
  have d4 := HRd.out.lt (List.mem_cons_self ..)
  have d5 := HRd.out.cells (List.mem_cons_of_mem _ (List.mem_cons_of_mem _ (List.mem_cons_self ..)))
  have d6 := HRd.out.free (List.mem_cons_of_mem _ (List.mem_cons_of_mem _ (List.mem_cons_self ..)))
  have d7 := HRd.out.lt (List.mem_cons_of_mem _ (List.mem_cons_of_mem _ (List.mem_cons_self ..)))
  go_wp2_with fail
  have u0 := (boxCells (heap_setCell_same (o := 6) (heap_setCell_same (o := 5) (heap_setCell_same (o := 4) (heap_setCell_same (o := 3) (heap_setCell_same (o := 2) (heap_setCell_same (o := 1) (heap_setCell_same (o := 0) (blk_set (HRd.out.h _ (List.mem_cons_of_mem _ (List.mem_cons_of_mem _ (List.mem_cons_self ..)))) (a := ⟨K, 6, none⟩) (by simp <;> omega) (.int .i64 r.wl)) (.int .i64 lo)) (.int .i64 (-s.rd))) (.int .i64 s.gh)) (.int .i64 s.hl)) (.int .i64 r.al)) (.int .i64 r.dh)) (.int .i64 r.wl))).1
  refine bodyPost_ret (v := trV ⟨lo, (-s.rd), s.gh, s.hl, r.al, r.dh, r.wl⟩) (by simp [results, Tryd.results39, go_sem, u0]) rfl ⟨by rw [HE.out], ?_⟩
  exact (below_set (below_set (below_set (below_set (below_set (below_set (below_set (below_set HRd.out.b (by simp <;> omega) _) (by simp <;> omega) _) (by simp <;> omega) _) (by simp <;> omega) _) (by simp <;> omega) _) (by simp <;> omega) _) (by simp <;> omega) _) (by simp <;> omega) _)

set_option maxHeartbeats 2000000 in
set_option maxRecDepth 100000 in
theorem rEnd_5 {s : Stn} {v : Value} {cs : List Chk} {r : Rdg} {w : World} (hc : Chks w v cs) (hg : Good s cs) (hr : r.Good) :
    Calls Tryd.prog 39 #[stV s v, rdV r, .int .i64 5] w fun e w' => e = .returned (trV (etF s cs r 5)) ∧ Below w.heap.size w w' := by
  obtain ⟨A, k, c, rfl⟩ := hc.shape
  have HR : Hid (Frm w [(w.heap.size + 1 + 1, (.cells #[.int .i64 0, .int .i64 0, .int .i64 0, .int .i64 0, .int .i64 0, .int .i64 0, .int .i64 0] 57)), (w.heap.size + 1, (rdBox r)), (w.heap.size, (stBox s (.slice A k c)))] (((w.alloc (stBox s (.slice A k c))).alloc (rdBox r)).alloc (.cells #[.int .i64 0, .int .i64 0, .int .i64 0, .int .i64 0, .int .i64 0, .int .i64 0, .int .i64 0] 57))) := Lib.hid ((((Frm.nil w).add _ (by simp)).add _ (by simp)).add _ (by simp))
  have HC := Lib.hid (hc.below HR.out.b)
  clear hc
  have r0 := hg.r0
  have r1 := hg.r1
  have HX : Hid (∀ W, Chks W (.slice A k c) cs → Calls Tryd.prog 22 #[stV s (.slice A k c), .int .i64 r.day] W fun x w' => x = .returned (spV (lowF s r.day cs) (highF s r.day cs)) ∧ Below W.heap.size W w') := Lib.hid (fun W h => rIndex_any h hg.sane hr.d0 hr.d1)
  have HE := Lib.hid (show trV (etF s cs r 5) = trV ⟨highF s r.day cs, s.rd, s.gl, s.hl, r.ah, r.dl, r.wh⟩ from rfl)
  generalize trV (etF s cs r 5) = res at *
  generalize lowF s r.day cs = lo at *
  generalize highF s r.day cs = hi at *
  go_enter Tryd.func39, Tryd.ntmps39
  go_wp2_with fail
  refine (HX.out _ HC.out).mono ?_
  rintro e w1 ⟨rfl, hb⟩
  have hz : w.heap.size + 1 + 1 < w1.heap.size := (HR.out.below hb).lt (List.mem_cons_self ..)
  have HR1 := Lib.hid ((HR.out.below hb).add (spBox lo hi) rfl)
  clear HR hb HC HX
  have HR := HR1
  clear HR1
  have c0 := HR.out.cells (List.mem_cons_self ..)
  have c2 := HR.out.cells (List.mem_cons_of_mem _ (List.mem_cons_of_mem _ (List.mem_cons_self ..)))
  have c3 := HR.out.cells (List.mem_cons_of_mem _ (List.mem_cons_of_mem _ (List.mem_cons_of_mem _ (List.mem_cons_self ..))))
  go_upto_region 3 with fail
  go_cut [9] (fun s9 wx => ∃ K : Nat, s9 = .pointer (some ⟨K, 0, none⟩) ∧ w.heap.size + 1 + 1 < K ∧ K ≠ w1.heap.size ∧ Frm w [(K, (.cells #[.int .i64 hi, .int .i64 s.rd, .int .i64 s.gl, .int .i64 0, .int .i64 r.ah, .int .i64 0, .int .i64 0] 57)), (w1.heap.size, (spBox lo hi)), (w.heap.size + 1 + 1, (.cells #[.int .i64 0, .int .i64 0, .int .i64 0, .int .i64 0, .int .i64 0, .int .i64 0, .int .i64 0] 57)), (w.heap.size + 1, (rdBox r)), (w.heap.size, (stBox s (.slice A k c)))] wx)
  case first =>
    go_region_held3 (fun w' => (∀ o, w'.cell? ⟨w1.heap.size, o, none⟩ = #[Value.int .i64 lo, .int .i64 hi][o]?) ∧ (∀ o, w'.cell? ⟨w.heap.size + 1, o, none⟩ = #[Value.int .i64 r.day, .int .i64 r.mi, .int .i64 r.cl, .int .i64 r.me, .int .i64 r.al, .int .i64 r.ah, .int .i64 r.dl, .int .i64 r.dh, .int .i64 r.wl, .int .i64 r.wh][o]?) ∧ (∀ o, w'.cell? ⟨w.heap.size, o, none⟩ = #[Value.int .i64 s.hl, .int .i64 s.hh, .int .i64 s.gl, .int .i64 s.gh, .int .i64 s.dr, .int .i64 s.rd, .int .i64 s.ea, .int .i64 s.sl, .slice A k c][o]?)) ((exact (fun hF : Frm w [(w1.heap.size, (spBox lo hi)), (w.heap.size + 1 + 1, (.cells #[.int .i64 0, .int .i64 0, .int .i64 0, .int .i64 0, .int .i64 0, .int .i64 0, .int .i64 0] 57)), (w.heap.size + 1, (rdBox r)), (w.heap.size, (stBox s (.slice A k c)))] _ => ⟨hF.cells (List.mem_cons_self ..), hF.cells (List.mem_cons_of_mem _ (List.mem_cons_of_mem _ (List.mem_cons_self ..))), hF.cells (List.mem_cons_of_mem _ (List.mem_cons_of_mem _ (List.mem_cons_of_mem _ (List.mem_cons_self ..))))⟩) (by (repeat (with_reducible first | exact HR.out | apply Frm.drew | apply Frm.alloc))))) ((go_at_call 67; (first | (with_reducible refine (rPick_hi _ _ _).mono ?_) | (with_reducible refine (rPick_lo _ _ _).mono ?_)); rintro e wa ⟨rfl, rfl⟩))
    all_goals
      go_wp2_with fail
      go_meet
      refine ⟨_, rfl, ?_, ?_, ⟨?_, fun p hp => ?_⟩⟩
      · simp <;> omega
      · simp <;> omega
      · (repeat (with_reducible first | exact HR.out.b | apply below_dr | apply below_al))
      · simp only [List.mem_cons, List.not_mem_nil, or_false] at hp
        rcases hp with rfl | rfl | rfl | rfl | rfl
        · (repeat (with_reducible first | exact heap_new _ _ (by simp) | apply blk_dr | apply blk_alloc))
        · (repeat (with_reducible first | exact HR.out.h _ (List.mem_cons_self ..) | apply blk_dr | apply blk_alloc))
        · (repeat (with_reducible first | exact HR.out.h _ (List.mem_cons_of_mem _ (List.mem_cons_self ..)) | apply blk_dr | apply blk_alloc))
        · (repeat (with_reducible first | exact HR.out.h _ (List.mem_cons_of_mem _ (List.mem_cons_of_mem _ (List.mem_cons_self ..))) | apply blk_dr | apply blk_alloc))
        · (repeat (with_reducible first | exact HR.out.h _ (List.mem_cons_of_mem _ (List.mem_cons_of_mem _ (List.mem_cons_of_mem _ (List.mem_cons_self ..)))) | apply blk_dr | apply blk_alloc))
  case rest =>
  obtain ⟨K, rfl, hK1, hK2, hF⟩ := hcut
  clear c0 c2 c3 HR
  have HR := Lib.hid hF
  clear hF
  have c0 := HR.out.cells (List.mem_cons_self ..)
  have f0 := HR.out.free (List.mem_cons_self ..)
  have c1 := HR.out.cells (List.mem_cons_of_mem _ (List.mem_cons_self ..))
  have c2 := HR.out.cells (List.mem_cons_of_mem _ (List.mem_cons_of_mem _ (List.mem_cons_of_mem _ (List.mem_cons_self ..))))
  have c3 := HR.out.cells (List.mem_cons_of_mem _ (List.mem_cons_of_mem _ (List.mem_cons_of_mem _ (List.mem_cons_of_mem _ (List.mem_cons_self ..)))))
  go_wp2_with fail
  refine (rPickB_lo _ _ _).mono ?_
  rintro e wa ⟨rfl, hb⟩
  have HRa : Hid (Frm w [(K, (.cells #[.int .i64 hi, .int .i64 s.rd, .int .i64 s.gl, .int .i64 0, .int .i64 r.ah, .int .i64 0, .int .i64 0] 57)), (w1.heap.size, (spBox lo hi)), (w.heap.size + 1 + 1, (.cells #[.int .i64 0, .int .i64 0, .int .i64 0, .int .i64 0, .int .i64 0, .int .i64 0, .int .i64 0] 57)), (w.heap.size + 1, (rdBox r)), (w.heap.size, (stBox s (.slice A k c)))] wa) := Lib.hid (Frm.below (w := w) (bs := [(K, (.cells #[.int .i64 hi, .int .i64 s.rd, .int .i64 s.gl, .int .i64 0, .int .i64 r.ah, .int .i64 0, .int .i64 0] 57)), (w1.heap.size, (spBox lo hi)), (w.heap.size + 1 + 1, (.cells #[.int .i64 0, .int .i64 0, .int .i64 0, .int .i64 0, .int .i64 0, .int .i64 0, .int .i64 0] 57)), (w.heap.size + 1, (rdBox r)), (w.heap.size, (stBox s (.slice A k c)))]) (by first | exact HR.out | exact HR.out.drew) hb)
  clear hb
  clear c0 f0 c1 c2 c3
  have d0 := HRa.out.cells (List.mem_cons_self ..)
  have d1 := HRa.out.free (List.mem_cons_self ..)
  have d2 := HRa.out.cells (List.mem_cons_of_mem _ (List.mem_cons_of_mem _ (List.mem_cons_of_mem _ (List.mem_cons_self ..))))
  have d3 := HRa.out.cells (List.mem_cons_of_mem _ (List.mem_cons_of_mem _ (List.mem_cons_of_mem _ (List.mem_cons_of_mem _ (List.mem_cons_self ..)))))
  have d4 := HRa.out.lt (List.mem_cons_self ..)
  have d5 := HRa.out.cells (List.mem_cons_of_mem _ (List.mem_cons_of_mem _ (List.mem_cons_self ..)))
  go_wp2_with fail
  refine (rPickB_lo _ _ _).mono ?_
  rintro e wb ⟨rfl, hb⟩
  have HRb : Hid (Frm w [(K, (.cells #[.int .i64 hi, .int .i64 s.rd, .int .i64 s.gl, .int .i64 s.hl, .int .i64 r.ah, .int .i64 0, .int .i64 0] 57)), (w1.heap.size, (spBox lo hi)), (w.heap.size + 1 + 1, (.cells #[.int .i64 0, .int .i64 0, .int .i64 0, .int .i64 0, .int .i64 0, .int .i64 0, .int .i64 0] 57)), (w.heap.size + 1, (rdBox r)), (w.heap.size, (stBox s (.slice A k c)))] wb) := Lib.hid (Frm.below (w := w) (bs := [(K, (.cells #[.int .i64 hi, .int .i64 s.rd, .int .i64 s.gl, .int .i64 s.hl, .int .i64 r.ah, .int .i64 0, .int .i64 0] 57)), (w1.heap.size, (spBox lo hi)), (w.heap.size + 1 + 1, (.cells #[.int .i64 0, .int .i64 0, .int .i64 0, .int .i64 0, .int .i64 0, .int .i64 0, .int .i64 0] 57)), (w.heap.size + 1, (rdBox r)), (w.heap.size, (stBox s (.slice A k c)))]) (show Frm w [(K, (.cells #[.int .i64 hi, .int .i64 s.rd, .int .i64 s.gl, .int .i64 s.hl, .int .i64 r.ah, .int .i64 0, .int .i64 0] 57)), (w1.heap.size, (spBox lo hi)), (w.heap.size + 1 + 1, (.cells #[.int .i64 0, .int .i64 0, .int .i64 0, .int .i64 0, .int .i64 0, .int .i64 0, .int .i64 0] 57)), (w.heap.size + 1, (rdBox r)), (w.heap.size, (stBox s (.slice A k c)))] _ from Frm.put HRa.out (by omega) (by simp <;> omega) 3 _) hb)
  clear hb
  clear d0 d1 d2 d3 d4 d5
  have d0 := HRb.out.cells (List.mem_cons_self ..)
  have d1 := HRb.out.free (List.mem_cons_self ..)
  have d2 := HRb.out.cells (List.mem_cons_of_mem _ (List.mem_cons_of_mem _ (List.mem_cons_of_mem _ (List.mem_cons_self ..))))
  have d3 := HRb.out.cells (List.mem_cons_of_mem _ (List.mem_cons_of_mem _ (List.mem_cons_of_mem _ (List.mem_cons_of_mem _ (List.mem_cons_self ..)))))
  have d4 := HRb.out.lt (List.mem_cons_self ..)
  have d5 := HRb.out.cells (List.mem_cons_of_mem _ (List.mem_cons_of_mem _ (List.mem_cons_self ..)))
  go_wp2_with fail
  refine (rPickB_hi _ _ _).mono ?_
  rintro e wd ⟨rfl, hb⟩
  have HRd : Hid (Frm w [(K, (.cells #[.int .i64 hi, .int .i64 s.rd, .int .i64 s.gl, .int .i64 s.hl, .int .i64 r.ah, .int .i64 r.dl, .int .i64 0] 57)), (w1.heap.size, (spBox lo hi)), (w.heap.size + 1 + 1, (.cells #[.int .i64 0, .int .i64 0, .int .i64 0, .int .i64 0, .int .i64 0, .int .i64 0, .int .i64 0] 57)), (w.heap.size + 1, (rdBox r)), (w.heap.size, (stBox s (.slice A k c)))] wd) := Lib.hid (Frm.below (w := w) (bs := [(K, (.cells #[.int .i64 hi, .int .i64 s.rd, .int .i64 s.gl, .int .i64 s.hl, .int .i64 r.ah, .int .i64 r.dl, .int .i64 0] 57)), (w1.heap.size, (spBox lo hi)), (w.heap.size + 1 + 1, (.cells #[.int .i64 0, .int .i64 0, .int .i64 0, .int .i64 0, .int .i64 0, .int .i64 0, .int .i64 0] 57)), (w.heap.size + 1, (rdBox r)), (w.heap.size, (stBox s (.slice A k c)))]) (show Frm w [(K, (.cells #[.int .i64 hi, .int .i64 s.rd, .int .i64 s.gl, .int .i64 s.hl, .int .i64 r.ah, .int .i64 r.dl, .int .i64 0] 57)), (w1.heap.size, (spBox lo hi)), (w.heap.size + 1 + 1, (.cells #[.int .i64 0, .int .i64 0, .int .i64 0, .int .i64 0, .int .i64 0, .int .i64 0, .int .i64 0] 57)), (w.heap.size + 1, (rdBox r)), (w.heap.size, (stBox s (.slice A k c)))] _ from Frm.put HRb.out (by omega) (by simp <;> omega) 5 _) hb)
  clear hb
  clear d0 d1 d2 d3 d4 d5
  have d0 := HRd.out.cells (List.mem_cons_self ..)
  have d1 := HRd.out.free (List.mem_cons_self ..)
  have d2 := HRd.out.cells (List.mem_cons_of_mem _ (List.mem_cons_of_mem _ (List.mem_cons_of_mem _ (List.mem_cons_self ..))))
  have d3 := HRd.out.cells (List.mem_cons_of_mem _ (List.mem_cons_of_mem _ (List.mem_cons_of_mem _ (List.mem_cons_of_mem _ (List.mem_cons_self ..)))))
  have d4 := HRd.out.lt (List.mem_cons_self ..)
  have d5 := HRd.out.cells (List.mem_cons_of_mem _ (List.mem_cons_of_mem _ (List.mem_cons_self ..)))
  have d6 := HRd.out.free (List.mem_cons_of_mem _ (List.mem_cons_of_mem _ (List.mem_cons_self ..)))
  have d7 := HRd.out.lt (List.mem_cons_of_mem _ (List.mem_cons_of_mem _ (List.mem_cons_self ..)))
  go_wp2_with fail
  have u0 := (boxCells (heap_setCell_same (o := 6) (heap_setCell_same (o := 5) (heap_setCell_same (o := 4) (heap_setCell_same (o := 3) (heap_setCell_same (o := 2) (heap_setCell_same (o := 1) (heap_setCell_same (o := 0) (blk_set (HRd.out.h _ (List.mem_cons_of_mem _ (List.mem_cons_of_mem _ (List.mem_cons_self ..)))) (a := ⟨K, 6, none⟩) (by simp <;> omega) (.int .i64 r.wh)) (.int .i64 hi)) (.int .i64 s.rd)) (.int .i64 s.gl)) (.int .i64 s.hl)) (.int .i64 r.ah)) (.int .i64 r.dl)) (.int .i64 r.wh))).1
  refine bodyPost_ret (v := trV ⟨hi, s.rd, s.gl, s.hl, r.ah, r.dl, r.wh⟩) (by simp [results, Tryd.results39, go_sem, u0]) rfl ⟨by rw [HE.out], ?_⟩
  exact (below_set (below_set (below_set (below_set (below_set (below_set (below_set (below_set HRd.out.b (by simp <;> omega) _) (by simp <;> omega) _) (by simp <;> omega) _) (by simp <;> omega) _) (by simp <;> omega) _) (by simp <;> omega) _) (by simp <;> omega) _) (by simp <;> omega) _)
end Go.Proofs.YtipckgojoanokaaDoor
