/- The law's examples: the station, the readings; and whether lists of spans are the same. -/
import Derived.Test.YtffgcphmakfikaaDoorPrn
import Derived.Test.YtffgcphmakfikaaDoorRefi
import Derived.Test.YtffgcphmakfikaaDoorRse
set_option linter.unusedVariables false
set_option linter.unusedSimpArgs false
namespace Go.Proofs.YtffgcphmakfikaaDoor
open Go.RowKit Go.Maps

set_option maxHeartbeats 400000 in
theorem lspan_any (a b : Int) (w : World) :
    Calls Tryd.prog 25 #[.int .i64 a, .int .i64 b] w fun e w' => e = .returned (spV a b) ∧ Below w.heap.size w w' := by
  go_enter Tryd.func25, Tryd.ntmps25
  go_wp2
  refine bodyPost_ret (v := spV a b) (by simp [results, Tryd.results25, go_sem]) rfl ⟨rfl, ?_⟩
  exact below_al (Below.refl _ _) _

def exS : Stn := ⟨100, 110, -100, 100, 1, 5, 30, 2⟩
def exC : List Chk := [⟨10, 20, 30⟩, ⟨30, 25, 50⟩]
def exR : Rdg := ⟨20, 480, 2, 75050, 200, 210, 150, 152, 120, 121⟩
def exQ : Rdg := ⟨25, 480, 3, 74950, 200, 210, 150, 152, 120, 121⟩
def StRet (w : World) (e : Ending) (w' : World) : Prop := ∃ v, e = .returned (stV exS v) ∧ Chks w' v exC ∧ Below w.heap.size w w'

theorem station_fin {w W : World} (h : Frm w [(w.heap.size, (.cells #[.int .i64 0, .int .i64 0, .int .i64 0, .int .i64 0, .int .i64 0, .int .i64 0, .int .i64 0, .int .i64 0, .slice none 0 0] 26))] W) :
    (∀ o, ((((((((((W.setCell ⟨w.heap.size, 0, none⟩ (.int .i64 100)).setCell ⟨w.heap.size, 1, none⟩ (.int .i64 110)).setCell ⟨w.heap.size, 2, none⟩ (.int .i64 (-100))).setCell ⟨w.heap.size, 3, none⟩ (.int .i64 100)).setCell ⟨w.heap.size, 4, none⟩ (.int .i64 1)).setCell ⟨w.heap.size, 5, none⟩ (.int .i64 5)).setCell ⟨w.heap.size, 6, none⟩ (.int .i64 30)).setCell ⟨w.heap.size, 7, none⟩ (.int .i64 2)).setCell ⟨w.heap.size, 8, none⟩ (.slice (some ⟨W.heap.size, 0, none⟩) 2 2)).alloc (.cells #[.int .i64 10, .int .i64 20, .int .i64 30, .int .i64 30, .int .i64 25, .int .i64 50] 31)).cell? ⟨w.heap.size, o, none⟩ = (#[(.int .i64 100), (.int .i64 110), (.int .i64 (-100)), (.int .i64 100), (.int .i64 1), (.int .i64 5), (.int .i64 30), (.int .i64 2), (.slice (some ⟨W.heap.size, 0, none⟩) 2 2)] : Array Value)[o]?) ∧ StRet w (.returned (stV exS (.slice (some ⟨W.heap.size, 0, none⟩) 2 2))) ((((((((((W.setCell ⟨w.heap.size, 0, none⟩ (.int .i64 100)).setCell ⟨w.heap.size, 1, none⟩ (.int .i64 110)).setCell ⟨w.heap.size, 2, none⟩ (.int .i64 (-100))).setCell ⟨w.heap.size, 3, none⟩ (.int .i64 100)).setCell ⟨w.heap.size, 4, none⟩ (.int .i64 1)).setCell ⟨w.heap.size, 5, none⟩ (.int .i64 5)).setCell ⟨w.heap.size, 6, none⟩ (.int .i64 30)).setCell ⟨w.heap.size, 7, none⟩ (.int .i64 2)).setCell ⟨w.heap.size, 8, none⟩ (.slice (some ⟨W.heap.size, 0, none⟩) 2 2)).alloc (.cells #[.int .i64 10, .int .i64 20, .int .i64 30, .int .i64 30, .int .i64 25, .int .i64 50] 31)) := by
  have hl := h.lt (List.mem_cons_self ..)
  have h0 := h.h _ (List.mem_cons_self ..)
  have hF : Frm w [(W.heap.size, (.cells #[.int .i64 10, .int .i64 20, .int .i64 30, .int .i64 30, .int .i64 25, .int .i64 50] 31))] ((((((((((W.setCell ⟨w.heap.size, 0, none⟩ (.int .i64 100)).setCell ⟨w.heap.size, 1, none⟩ (.int .i64 110)).setCell ⟨w.heap.size, 2, none⟩ (.int .i64 (-100))).setCell ⟨w.heap.size, 3, none⟩ (.int .i64 100)).setCell ⟨w.heap.size, 4, none⟩ (.int .i64 1)).setCell ⟨w.heap.size, 5, none⟩ (.int .i64 5)).setCell ⟨w.heap.size, 6, none⟩ (.int .i64 30)).setCell ⟨w.heap.size, 7, none⟩ (.int .i64 2)).setCell ⟨w.heap.size, 8, none⟩ (.slice (some ⟨W.heap.size, 0, none⟩) 2 2)).alloc (.cells #[.int .i64 10, .int .i64 20, .int .i64 30, .int .i64 30, .int .i64 25, .int .i64 50] 31)) := by
    refine (Frm.add (bs := []) ?_ _ (by simp))
    repeat (refine Frm.set ?_ (Nat.le_refl _) (by simp) _)
    exact h.less (by simp)
  refine ⟨(boxCells (blk_alloc (heap_setCell_same (o := 8) (heap_setCell_same (o := 7) (heap_setCell_same (o := 6) (heap_setCell_same (o := 5) (heap_setCell_same (o := 4) (heap_setCell_same (o := 3) (heap_setCell_same (o := 2) (heap_setCell_same (o := 1) (heap_setCell_same (o := 0) h0 (.int .i64 100)) (.int .i64 110)) (.int .i64 (-100))) (.int .i64 100)) (.int .i64 1)) (.int .i64 5)) (.int .i64 30)) (.int .i64 2)) (.slice (some ⟨W.heap.size, 0, none⟩) 2 2)) _)).1, _, rfl, ⟨some ⟨W.heap.size, 0, none⟩, 2, rfl, by decide, by unfold maxLen; omega, .inr ⟨W.heap.size, 0, rfl, hF.lt (List.mem_cons_self ..), ?_⟩⟩, hF.b⟩
  have hc := hF.cells (List.mem_cons_self ..)
  intro i c hi
  match i, hi with
  | 0, hi => cases hi; exact ⟨hc 0, hc 1, hc 2⟩
  | 1, hi => cases hi; exact ⟨hc 3, hc 4, hc 5⟩
  | i + 2, hi => simp [exC] at hi

set_option maxHeartbeats 800000 in
theorem station_ex (w : World) : Calls Tryd.prog 17 #[] w (StRet w) := by
  have HR : Hid (Frm w [(w.heap.size, (.cells #[.int .i64 0, .int .i64 0, .int .i64 0, .int .i64 0, .int .i64 0, .int .i64 0, .int .i64 0, .int .i64 0, .slice none 0 0] 26))] (w.alloc (.cells #[.int .i64 0, .int .i64 0, .int .i64 0, .int .i64 0, .int .i64 0, .int .i64 0, .int .i64 0, .int .i64 0, .slice none 0 0] 26))) := Lib.hid ((Frm.nil w).add _ (by simp))
  go_enter Tryd.func17, Tryd.ntmps17
  go_wp2_with (go_at_call 25; refine (lspan_any _ _ _).mono ?_; rintro x w1 ⟨rfl, hb1⟩; have HRq := Lib.hid (Frm.below (w := w) (bs := [(w.heap.size, (.cells #[.int .i64 0, .int .i64 0, .int .i64 0, .int .i64 0, .int .i64 0, .int .i64 0, .int .i64 0, .int .i64 0, .slice none 0 0] 26))]) (by (repeat (with_reducible first | exact HR.out | apply Frm.drew | apply Frm.alloc))) hb1); clear HR; have HR := HRq; clear HRq hb1; have hwz := HR.out.size; have bc0 := HR.out.cells (List.mem_cons_self ..); have bf0 := HR.out.free (List.mem_cons_self ..); have bl0 := HR.out.lt (List.mem_cons_self ..))
  have u := station_fin HR.out
  refine bodyPost_ret ?_ rfl u.2
  have u0 := u.1
  simp [results, Tryd.results17, go_sem, u0, exS]

set_option maxHeartbeats 800000 in
theorem reading_ex (w : World) : Calls Tryd.prog 20 #[] w fun e w' => e = .returned (rdV exR) ∧ Below w.heap.size w w' := by
  have HR : Hid (Frm w [(w.heap.size, (.cells #[.int .i64 0, .int .i64 0, .int .i64 0, .int .i64 0, .int .i64 0, .int .i64 0, .int .i64 0, .int .i64 0, .int .i64 0, .int .i64 0] 29))] (w.alloc (.cells #[.int .i64 0, .int .i64 0, .int .i64 0, .int .i64 0, .int .i64 0, .int .i64 0, .int .i64 0, .int .i64 0, .int .i64 0, .int .i64 0] 29))) := Lib.hid ((Frm.nil w).add _ (by simp))
  go_enter Tryd.func20, Tryd.ntmps20
  go_wp2_with (go_at_call 25; refine (lspan_any _ _ _).mono ?_; rintro x w1 ⟨rfl, hb1⟩; have HRq := Lib.hid (Frm.below (w := w) (bs := [(w.heap.size, (.cells #[.int .i64 0, .int .i64 0, .int .i64 0, .int .i64 0, .int .i64 0, .int .i64 0, .int .i64 0, .int .i64 0, .int .i64 0, .int .i64 0] 29))]) (by (repeat (with_reducible first | exact HR.out | apply Frm.drew | apply Frm.alloc))) hb1); clear HR; have HR := HRq; clear HRq hb1; have hwz := HR.out.size; have bc0 := HR.out.cells (List.mem_cons_self ..); have bf0 := HR.out.free (List.mem_cons_self ..); have bl0 := HR.out.lt (List.mem_cons_self ..))
  have u0 := (boxCells (heap_setCell_same (o := 9) (heap_setCell_same (o := 8) (heap_setCell_same (o := 7) (heap_setCell_same (o := 6) (heap_setCell_same (o := 5) (heap_setCell_same (o := 4) (heap_setCell_same (o := 3) (heap_setCell_same (o := 2) (heap_setCell_same (o := 1) (heap_setCell_same (o := 0) (HR.out.h _ (List.mem_cons_self ..)) (.int .i64 20)) (.int .i64 480)) (.int .i64 2)) (.int .i64 75050)) (.int .i64 200)) (.int .i64 210)) (.int .i64 150)) (.int .i64 152)) (.int .i64 120)) (.int .i64 121))).1
  refine bodyPost_ret (v := rdV exR) (by simp [results, Tryd.results20, go_sem, u0, exR]) rfl ⟨rfl, ?_⟩
  exact (below_set (below_set (below_set (below_set (below_set (below_set (below_set (below_set (below_set (below_set HR.out.b (by simp <;> omega) _) (by simp <;> omega) _) (by simp <;> omega) _) (by simp <;> omega) _) (by simp <;> omega) _) (by simp <;> omega) _) (by simp <;> omega) _) (by simp <;> omega) _) (by simp <;> omega) _) (by simp <;> omega) _)

set_option maxHeartbeats 800000 in
theorem later_ex (w : World) : Calls Tryd.prog 22 #[] w fun e w' => e = .returned (rdV exQ) ∧ Below w.heap.size w w' := by
  have HR : Hid (Frm w [(w.heap.size, (.cells #[.int .i64 0, .int .i64 0, .int .i64 0, .int .i64 0, .int .i64 0, .int .i64 0, .int .i64 0, .int .i64 0, .int .i64 0, .int .i64 0] 29))] (w.alloc (.cells #[.int .i64 0, .int .i64 0, .int .i64 0, .int .i64 0, .int .i64 0, .int .i64 0, .int .i64 0, .int .i64 0, .int .i64 0, .int .i64 0] 29))) := Lib.hid ((Frm.nil w).add _ (by simp))
  go_enter Tryd.func22, Tryd.ntmps22
  go_wp2_with (go_at_call 20; refine (reading_ex _).mono ?_; rintro x w1 ⟨rfl, hb1⟩; have HRq := Lib.hid (Frm.below (w := w) (bs := [(w.heap.size, (.cells #[.int .i64 0, .int .i64 0, .int .i64 0, .int .i64 0, .int .i64 0, .int .i64 0, .int .i64 0, .int .i64 0, .int .i64 0, .int .i64 0] 29))]) (by (repeat (with_reducible first | exact HR.out | apply Frm.drew | apply Frm.alloc))) hb1); clear HR; have HR := HRq; clear HRq hb1; have hwz := HR.out.size; have bc0 := HR.out.cells (List.mem_cons_self ..); have bf0 := HR.out.free (List.mem_cons_self ..); have bl0 := HR.out.lt (List.mem_cons_self ..))
  have u0 := (boxCells (blk_alloc (heap_setCell_same (o := 9) (heap_setCell_same (o := 8) (heap_setCell_same (o := 7) (heap_setCell_same (o := 6) (heap_setCell_same (o := 5) (heap_setCell_same (o := 4) (heap_setCell_same (o := 3) (heap_setCell_same (o := 2) (heap_setCell_same (o := 1) (heap_setCell_same (o := 0) (HR.out.h _ (List.mem_cons_self ..)) (.int .i64 25)) (.int .i64 exR.mi)) (.int .i64 3)) (.int .i64 74950)) (.int .i64 exR.al)) (.int .i64 exR.ah)) (.int .i64 exR.dl)) (.int .i64 exR.dh)) (.int .i64 exR.wl)) (.int .i64 exR.wh)) (rdBox ⟨25, exR.mi, 3, 74950, exR.al, exR.ah, exR.dl, exR.dh, exR.wl, exR.wh⟩))).1
  refine bodyPost_ret (v := rdV ⟨25, exR.mi, 3, 74950, exR.al, exR.ah, exR.dl, exR.dh, exR.wl, exR.wh⟩) (by simp [results, Tryd.results22, go_sem, u0]) rfl ⟨rfl, ?_⟩
  exact below_al (below_set (below_set (below_set (below_set (below_set (below_set (below_set (below_set (below_set (below_set HR.out.b (by simp <;> omega) _) (by simp <;> omega) _) (by simp <;> omega) _) (by simp <;> omega) _) (by simp <;> omega) _) (by simp <;> omega) _) (by simp <;> omega) _) (by simp <;> omega) _) (by simp <;> omega) _) (by simp <;> omega) _) _

/-- A slice that reads as a list of spans. -/
def SpsAt (w : World) (b off : Nat) (xs : List (Int × Int)) : Prop := ∀ i p, xs[i]? = some p → w.cell? ⟨b, off + i * 2, none⟩ = some (.int .i64 p.1) ∧ w.cell? ⟨b, off + i * 2 + 1, none⟩ = some (.int .i64 p.2)
def Sps (w : World) (v : Value) (xs : List (Int × Int)) : Prop :=
  ∃ A cap, v = .slice A xs.length cap ∧ xs.length ≤ cap ∧ cap ≤ maxLen ∧ (xs = [] ∨ ∃ b off, A = some ⟨b, off, none⟩ ∧ b < w.heap.size ∧ SpsAt w b off xs)
theorem SpsAt.below {w w' : World} {B b off : Nat} {xs : List (Int × Int)} (h : SpsAt w b off xs) (hb : Below B w w') (hB : b < B) : SpsAt w' b off xs := fun i p hp => by
  obtain ⟨h0, h1⟩ := h i p hp
  exact ⟨(hb.cell (p := ⟨b, _, none⟩) hB).trans h0, (hb.cell (p := ⟨b, _, none⟩) hB).trans h1⟩
theorem Sps.below {w w' : World} {v : Value} {xs : List (Int × Int)} (h : Sps w v xs) (hb : Below w.heap.size w w') : Sps w' v xs := by
  obtain ⟨A, cap, hv, hl, hm, h⟩ := h
  refine ⟨A, cap, hv, hl, hm, ?_⟩
  rcases h with h | ⟨b, off, hA, hlt, hc⟩
  · exact .inl h
  · exact .inr ⟨b, off, hA, Nat.lt_of_lt_of_le hlt hb.size, hc.below hb hlt⟩

set_option maxHeartbeats 800000 in
theorem sameSpans_some (xs : List (Int × Int)) (b off cap b' off' cap' : Nat) (w : World) (hcap : xs.length ≤ cap) (hm : cap ≤ maxLen) (hb : b < w.heap.size) (hb' : b' < w.heap.size) (hc : SpsAt w b off xs) (hc' : SpsAt w b' off' xs) :
    Calls Tryd.prog 26 #[.slice (some ⟨b, off, none⟩) xs.length cap, .slice (some ⟨b', off', none⟩) xs.length cap'] w fun e w' => e = .returned (.bool true) ∧ Below w.heap.size w w' := by
  unfold maxLen at hm
  go_enter Tryd.func26, Tryd.ntmps26
  go_wp2_with fail
  go_loopw [5] (fun k wr => ∃ n : Nat, n ≤ xs.length ∧ k = .int .i64 n ∧ Below w.heap.size w wr) (fun k _ => xs.length - (intOf k).toNat)
  case atStart => exact ⟨0, Nat.zero_le _, rfl, Below.refl _ _⟩
  case round =>
    obtain ⟨n, hn, rfl, hB⟩ := hrel
    by_cases hlt : n < xs.length
    · obtain ⟨h0, h1⟩ := hc.below hB hb n xs[n] (List.getElem?_eq_getElem hlt)
      obtain ⟨g0, g1⟩ := hc'.below hB hb' n xs[n] (List.getElem?_eq_getElem hlt)
      generalize xs[n] = p at *
      have HB := Lib.hid hB
      clear hc hc' hB
      have i1 : (0 : Int) ≤ n := by omega
      have i2 : (n : Int) < xs.length := by omega
      go_wp2_with fail
      go_quiet (fail)
      go_wp2
      go_roundw
      case rel => exact ⟨n + 1, by omega, by go_num, below_drewN HB.out _⟩
      case measure => simp [intOf]; omega
    · clear hc hc'
      go_wp2
      go_ret
      exact ⟨rfl, hB⟩
end Go.Proofs.YtffgcphmakfikaaDoor
