/- The reference's Index. -/
import Derived.Test.YtipckgojoanokaaDoorRefr
import Derived.Test.YtipckgojoanokaaDoorWhn
import Derived.StillTailTactics
import Derived.IntWalk
set_option linter.unusedVariables false
set_option linter.unusedSimpArgs false
namespace Go.Proofs.YtipckgojoanokaaDoor
open Go.RowKit
theorem lowF_succ {s : Stn} {day : Int} {cs : List Chk} {n : Nat} {c : Chk} (h : cs[n]? = some c) : lowF s day (cs.take (n + 1)) = max (lowF s day (cs.take n)) (c.lo - s.dr * farI day c.day) := by
  simp [lowF, List.take_add_one, h, List.foldl_append]
theorem highF_succ {s : Stn} {day : Int} {cs : List Chk} {n : Nat} {c : Chk} (h : cs[n]? = some c) : highF s day (cs.take (n + 1)) = min (highF s day (cs.take n)) (c.hi + s.dr * farI day c.day) := by
  simp [highF, List.take_add_one, h, List.foldl_append]
set_option maxHeartbeats 800000 in
set_option maxRecDepth 100000 in
theorem rIndex_some (s : Stn) (cs : List Chk) (hs : Sane s cs) (day : Int) (hd0 : 0 ≤ day) (hd1 : day ≤ 400) (b off cap : Nat) (w : World) (hcap : cs.length ≤ cap) (hm : cap ≤ maxLen) (hb : b < w.heap.size) (hc : ChksAt w b off cs) :
    Calls Tryd.prog 22 #[stV s (.slice (some ⟨b, off, none⟩) cs.length cap), .int .i64 day] w fun e w' => e = .returned (spV (lowF s day cs) (highF s day cs)) ∧ Below w.heap.size w w' := by
  unfold maxLen at hm
  go_enter Tryd.func22, Tryd.ntmps22
  go_wp2_with fail
  go_loopw [6] (fun k wr => ∃ n : Nat, n ≤ cs.length ∧ k = .int .i64 n ∧ wr.heap[w.heap.size + 1 + 1]? = some (.cells #[.int .i64 (lowF s day (cs.take n)), .int .i64 (highF s day (cs.take n))] 23) ∧ wr.heap[w.heap.size]? = some (stBox s (.slice (some ⟨b, off, none⟩) cs.length cap)) ∧ wr.heap[w.heap.size + 1]? = some (.cells #[.int .i64 0, .int .i64 0] 23) ∧ w.heap.size + 3 ≤ wr.heap.size ∧ Below w.heap.size w wr) (fun k _ => cs.length - (intOf k).toNat)
  case atStart =>
    refine ⟨0, Nat.zero_le _, rfl, ?_, ?_, ?_, by simp, (((Below.refl _ _).alloc (Nat.le_refl _) _).alloc (by simp) _).alloc (by simp; omega) _⟩
    · exact blk_new _ _ (by simp)
    · exact blk_alloc (blk_alloc (blk_new _ _ rfl) _) _
    · exact blk_alloc (blk_new _ _ (by simp)) _
  case round =>
    obtain ⟨n, hn, rfl, ho, hst, hre, hz, hB⟩ := hrel
    have hbw : ∀ o, wr.cell? ⟨b, o, none⟩ = w.cell? ⟨b, o, none⟩ := fun o => hB.cell (p := ⟨b, o, none⟩) (by show b < _; omega)
    obtain ⟨hoc, hof⟩ := boxCells ho
    obtain ⟨hsc, hsf⟩ := boxCells hst
    by_cases hlt : n < cs.length
    · obtain ⟨c0, c1, c2⟩ := hc n cs[n] (List.getElem?_eq_getElem hlt)
      replace c0 := (hbw _).trans c0; replace c1 := (hbw _).trans c1; replace c2 := (hbw _).trans c2
      have hcn : cs[n]? = some cs[n] := List.getElem?_eq_getElem hlt
      have hsn := hs.all cs[n] (List.getElem_mem hlt)
      have Hcn := Lib.hid hcn
      generalize cs[n] = c at *
      clear hcn hc hbw
      obtain ⟨g0, g1, g2, g3, g4⟩ := hsn
      have hp := change_bounds hs.d0 hs.d1 hd0 (show day ≤ 10000 by omega) g0 (show c.day ≤ 10000 by omega)
      have hF : ∀ W, Calls Tryd.prog 55 #[.int .i64 day, .int .i64 c.day] W fun e w' => e = .returned (.int .i64 (farI day c.day)) ∧ w' = W := fun W => (far_any _ _ W (by omega) (by omega) (by omega) (by omega)).mono fun _ _ h => ⟨h.1, h.2.symm⟩
      obtain ⟨ff, hff⟩ : ∃ ff, farI day c.day = ff := ⟨_, rfl⟩
      rw [hff] at hp hF
      have Hff := Lib.hid hff
      clear hff
      go_wp2_with fail
      have Ho := Lib.hid (blk_alloc ho (.cells #[.int .i64 c.day, .int .i64 c.lo, .int .i64 c.hi] 39))
      have Hst := Lib.hid (blk_alloc hst (.cells #[.int .i64 c.day, .int .i64 c.lo, .int .i64 c.hi] 39))
      have Hre := Lib.hid (blk_alloc hre (.cells #[.int .i64 c.day, .int .i64 c.lo, .int .i64 c.hi] 39))
      have HB := Lib.hid (hB.alloc (by omega) (.cells #[.int .i64 c.day, .int .i64 c.lo, .int .i64 c.hi] 39))
      have Hcc := Lib.hid (heap_new wr (.cells #[.int .i64 c.day, .int .i64 c.lo, .int .i64 c.hi] 39) rfl)
      have hzz : wr.heap.size < (wr.alloc (.cells #[.int .i64 c.day, .int .i64 c.lo, .int .i64 c.hi] 39)).heap.size := by simp
      clear hoc hof hsc hsf ho hst hre c0 c1 c2 hB
      generalize (wr.alloc (.cells #[.int .i64 c.day, .int .i64 c.lo, .int .i64 c.hi] 39)) = W at *
      obtain ⟨hoc, hof⟩ := boxCells Ho.out
      obtain ⟨hsc, hsf⟩ := boxCells Hst.out
      obtain ⟨hcc, hcf⟩ := boxCells Hcc.out
      have hs4 := hsc 4
      simp at hs4
      obtain ⟨hp0, hp1⟩ := hp
      have hp2 : c.lo - s.dr * ff ≤ 2000 := by omega
      have hp3 : -10002000 ≤ c.lo - s.dr * ff := by omega
      have HL := Lib.hid (show (if lowF s day (cs.take n) < IntKind.i64.wrap (c.lo - IntKind.i64.wrap (s.dr * ff)) then IntKind.i64.wrap (c.lo - IntKind.i64.wrap (s.dr * ff)) else lowF s day (cs.take n)) = lowF s day (cs.take (n + 1)) by
        rw [IntWalk.i64_in (s.dr * ff) (by omega), IntWalk.i64_in (c.lo - s.dr * ff) (by omega), lowF_succ Hcn.out, Hff.out]; split <;> omega)
      have HH := Lib.hid (show (if IntKind.i64.wrap (c.hi + IntKind.i64.wrap (s.dr * ff)) < highF s day (cs.take n) then IntKind.i64.wrap (c.hi + IntKind.i64.wrap (s.dr * ff)) else highF s day (cs.take n)) = highF s day (cs.take (n + 1)) by
        rw [IntWalk.i64_in (s.dr * ff) (by omega), IntWalk.i64_in (c.hi + s.dr * ff) (by omega), highF_succ Hcn.out, Hff.out]; split <;> omega)
      go_still_tail 15, (by kernel_rfl)
      still_call (hF _)
      repeat still_step
      refine wpStill_nil ?_
      change wpList _ _ _ _ _ W.drew
      rw [HL.out]
      go_wp2_with fail
      have Ho1 := Lib.hid (blk_dr (heap_setCell_same (o := 0) Ho.out (.int .i64 (lowF s day (cs.take (n + 1))))))
      have Hst1 := Lib.hid (blk_dr (blk_set Hst.out (a := ⟨w.heap.size + 1 + 1, 0, none⟩) (by simp <;> omega) (.int .i64 (lowF s day (cs.take (n + 1))))))
      have Hre1 := Lib.hid (blk_dr (blk_set Hre.out (a := ⟨w.heap.size + 1 + 1, 0, none⟩) (by simp <;> omega) (.int .i64 (lowF s day (cs.take (n + 1))))))
      have Hcc1 := Lib.hid (blk_dr (blk_set Hcc.out (a := ⟨w.heap.size + 1 + 1, 0, none⟩) (by simp <;> omega) (.int .i64 (lowF s day (cs.take (n + 1))))))
      have HB1 := Lib.hid (show Below w.heap.size w ((W.setCell ⟨w.heap.size + 1 + 1, 0, none⟩ (.int .i64 (lowF s day (cs.take (n + 1))))).drew) from (HB.out.setCell (p := ⟨w.heap.size + 1 + 1, 0, none⟩) (by show w.heap.size ≤ w.heap.size + 1 + 1; omega) _).drew)
      have hz1 : wr.heap.size < ((W.setCell ⟨w.heap.size + 1 + 1, 0, none⟩ (.int .i64 (lowF s day (cs.take (n + 1))))).drew).heap.size := (Array.getElem?_eq_some_iff.1 Hcc1.out).1
      clear hcc hcf hsc hsf hoc hof hs4 hzz HL
      generalize ((W.setCell ⟨w.heap.size + 1 + 1, 0, none⟩ (.int .i64 (lowF s day (cs.take (n + 1))))).drew) = W1 at *
      obtain ⟨hoc, hof⟩ := boxCells Ho1.out
      obtain ⟨hsc, hsf⟩ := boxCells Hst1.out
      obtain ⟨hcc, hcf⟩ := boxCells Hcc1.out
      simp at hoc
      go_still_tail 15, (by kernel_rfl)
      still_call (hF _)
      repeat still_step
      refine wpStill_nil ?_
      change wpList _ _ _ _ _ W1.drew
      rw [HH.out]
      go_wp2_with fail
      go_roundw
      case rel => exact ⟨n + 1, by omega, by go_num, blk_dr (by simpa using heap_setCell_same (o := 1) Ho1.out (.int .i64 (highF s day (cs.take (n + 1))))), blk_dr (blk_set Hst1.out (by simp <;> omega) _), blk_dr (blk_set Hre1.out (by simp <;> omega) _), by simp; omega, (HB1.out.setCell (p := ⟨w.heap.size + 1 + 1, 1, none⟩) (by show w.heap.size ≤ w.heap.size + 1 + 1; omega) _).drew⟩
      case measure => simp [intOf]; omega
    · obtain rfl : n = cs.length := by omega
      rw [List.take_length] at hoc
      clear hc hbw hst
      obtain ⟨hrc, hrf⟩ := boxCells hre
      have Hre := Lib.hid hre
      clear hre ho
      have HB := Lib.hid hB
      go_wp2_with fail
      have hre1 := heap_setCell_same (o := 1) (heap_setCell_same (o := 0) Hre.out (.int .i64 (lowF s day cs))) (.int .i64 (highF s day cs))
      have hr0 := (boxCells hre1).1 0
      have hr1 := (boxCells hre1).1 1
      simp at hr0 hr1
      refine bodyPost_ret (v := spV (lowF s day cs) (highF s day cs)) (by simp [results, Tryd.results22, go_sem, hr0, hr1]) rfl ⟨rfl, (HB.out.setCell (p := ⟨w.heap.size + 1, 0, none⟩) (by show w.heap.size ≤ w.heap.size + 1; omega) _).setCell (p := ⟨w.heap.size + 1, 1, none⟩) (by show w.heap.size ≤ w.heap.size + 1; omega) _⟩

set_option maxHeartbeats 800000 in
theorem rIndex_nil (s : Stn) (day : Int) (A : Option Addr) (cap : Nat) (w : World) :
    Calls Tryd.prog 22 #[stV s (.slice A 0 cap), .int .i64 day] w fun e w' => e = .returned (spV (lowF s day []) (highF s day [])) ∧ Below w.heap.size w w' := by
  go_enter Tryd.func22, Tryd.ntmps22
  go_wp2_with fail
  go_loopw [6] (fun k wr => k = .int .i64 0 ∧ wr.heap[w.heap.size + 1 + 1]? = some (.cells #[.int .i64 (-2000), .int .i64 2000] 23) ∧ wr.heap[w.heap.size]? = some (stBox s (.slice A 0 cap)) ∧ wr.heap[w.heap.size + 1]? = some (.cells #[.int .i64 0, .int .i64 0] 23) ∧ w.heap.size + 3 ≤ wr.heap.size ∧ Below w.heap.size w wr) (fun k _ => (0 - intOf k).toNat)
  case atStart =>
    refine ⟨rfl, ?_, ?_, ?_, by simp, (((Below.refl _ _).alloc (Nat.le_refl _) _).alloc (by simp) _).alloc (by simp; omega) _⟩
    · exact blk_new _ _ (by simp)
    · exact blk_alloc (blk_alloc (blk_new _ _ rfl) _) _
    · exact blk_alloc (blk_new _ _ (by simp)) _
  case round =>
    obtain ⟨rfl, ho, hst, hre, hz, hB⟩ := hrel
    obtain ⟨hoc, hof⟩ := boxCells ho
    obtain ⟨hsc, hsf⟩ := boxCells hst
    obtain ⟨hrc, hrf⟩ := boxCells hre
    have Hre := Lib.hid hre
    clear hst hre ho
    have HB := Lib.hid hB
    go_wp2_with fail
    have hre1 := heap_setCell_same (o := 1) (heap_setCell_same (o := 0) Hre.out (.int .i64 (-2000))) (.int .i64 2000)
    have hr0 := (boxCells hre1).1 0
    have hr1 := (boxCells hre1).1 1
    simp at hr0 hr1
    refine bodyPost_ret (v := spV (-2000) 2000) (by simp [results, Tryd.results22, go_sem, hr0, hr1]) rfl ⟨rfl, (HB.out.setCell (p := ⟨w.heap.size + 1, 0, none⟩) (by show w.heap.size ≤ w.heap.size + 1; omega) _).setCell (p := ⟨w.heap.size + 1, 1, none⟩) (by show w.heap.size ≤ w.heap.size + 1; omega) _⟩

/-- What the reference's Index returns, of any station whose comparisons are sane. -/
theorem rIndex_any {s : Stn} {v : Value} {cs : List Chk} {w : World} (h : Chks w v cs) (hs : Sane s cs) {day : Int} (hd0 : 0 ≤ day) (hd1 : day ≤ 400) :
    Calls Tryd.prog 22 #[stV s v, .int .i64 day] w fun e w' => e = .returned (spV (lowF s day cs) (highF s day cs)) ∧ Below w.heap.size w w' := by
  obtain ⟨A, cap, rfl, hl, hm, h⟩ := h
  rcases h with rfl | ⟨b, off, rfl, hlt, hc⟩
  · exact rIndex_nil s day A cap w
  · exact rIndex_some s cs hs day hd0 hd1 b off cap w hl hm hlt hc
end Go.Proofs.YtipckgojoanokaaDoor
