/- A map with just two of its stations, by the law. -/
import Derived.Test.YtbabmiljfcfogaaGreatDoorCdd
import Derived.Deep.RegionHeld3
set_option linter.unusedVariables false
set_option linter.unusedSimpArgs false
namespace Go.Proofs.YtbabmiljfcfogaaGreatDoor
open Go.RowKit
open Go.Maps
theorem stas_six {W : World} {P : Nat} {x y : Sta} (h : ∀ o, W.cell? ⟨P, o, none⟩ = #[Value.int .i64 x.pt, .int .i64 x.lo, .int .i64 x.hi, .int .i64 y.pt, .int .i64 y.lo, .int .i64 y.hi][o]?) (j : Nat) (z : Sta) (hj : [x, y][j]? = some z) :
    W.cell? ⟨P, 0 + j * 3, none⟩ = some (.int .i64 z.pt) ∧ W.cell? ⟨P, 0 + j * 3 + 1, none⟩ = some (.int .i64 z.lo) ∧ W.cell? ⟨P, 0 + j * 3 + 2, none⟩ = some (.int .i64 z.hi) := by
  match j, hj with
  | 0, hj => obtain rfl : x = z := by simpa using hj
             exact ⟨h 0, h 1, h 2⟩
  | 1, hj => obtain rfl : y = z := by simpa using hj
             exact ⟨h 3, h 4, h 5⟩
set_option maxHeartbeats 4000000 in
set_option maxRecDepth 100000 in
theorem only_any (m : Mp) (A : Option Addr) (c : Nat) (cs : List Sta) (i k : Nat) (x y : Sta) (w : World) (hs : Sane m cs) (hc : Stas w (.slice A cs.length c) cs) (hx : cs[i]? = some x) (hy : cs[k]? = some y) :
    Calls Tryz.prog 28 #[mpV m (.slice A cs.length c), .int .i64 i, .int .i64 k] w fun e w' => ∃ P, e = .returned (mpV m (.slice (some ⟨P, 0, none⟩) 2 2)) ∧ Stas w' (.slice (some ⟨P, 0, none⟩) 2 2) [x, y] ∧ Below w.heap.size w w' := by
  have hil : i < cs.length := (List.getElem?_eq_some_iff.1 hx).1
  have hkl : k < cs.length := (List.getElem?_eq_some_iff.1 hy).1
  have hl12 := hs.len
  have i1 : (0 : Int) ≤ i := by omega
  have i2 : (i : Int) < cs.length := by omega
  have k1 : (0 : Int) ≤ k := by omega
  have k2 : (k : Int) < cs.length := by omega
  obtain ⟨b, off, hA, hcap, hmx, -⟩ := sta_cells hc hx
  unfold maxLen at hmx
  subst hA
  have HC := Lib.hid hc
  have Hx := Lib.hid hx
  have Hy := Lib.hid hy
  clear hc hx hy
  have HR := Lib.hid ((((Frm.nil w).add (mpBox m (.slice (some ⟨b, off, none⟩) cs.length c)) rfl).add (k := w.heap.size + 1) (.cells #[.int .i64 0, .int .i64 0, .int .i64 0, .slice none 0 0] 24) (by simp)).add (k := w.heap.size + 1 + 1) (mpBox m (.slice (some ⟨b, off, none⟩) cs.length c)) (by simp))
  have x0 := HR.out.cells (List.mem_cons_self ..)
  have x1 := HR.out.cells (List.mem_cons_of_mem _ (List.mem_cons_self ..))
  have x2 := HR.out.cells (List.mem_cons_of_mem _ (List.mem_cons_of_mem _ (List.mem_cons_self ..)))
  go_enter Tryz.func28, Tryz.ntmps28
  go_upto_region 2 with fail
  have HV := Lib.hid ((Frm.nil w).add (mpBox m (.slice (some ⟨b, off, none⟩) cs.length c)) rfl)
  go_region_held3 (fun w' => (∀ o, w'.cell? ⟨w.heap.size, o, none⟩ = #[Value.int .i64 m.wd, .int .i64 m.rw, .int .i64 m.sl, (.slice (some ⟨b, off, none⟩) cs.length c)][o]?) ∧ w'.cell? ⟨b, off + i * 3, none⟩ = some (.int .i64 x.pt) ∧ w'.cell? ⟨b, off + i * 3 + 1, none⟩ = some (.int .i64 x.lo) ∧ w'.cell? ⟨b, off + i * 3 + 2, none⟩ = some (.int .i64 x.hi) ∧ w'.cell? ⟨b, off + k * 3, none⟩ = some (.int .i64 y.pt) ∧ w'.cell? ⟨b, off + k * 3 + 1, none⟩ = some (.int .i64 y.lo) ∧ w'.cell? ⟨b, off + k * 3 + 2, none⟩ = some (.int .i64 y.hi)) ((exact (fun hF : Frm w [(w.heap.size, (mpBox m (.slice (some ⟨b, off, none⟩) cs.length c)))] _ => ⟨hF.cells (List.mem_cons_self ..), (sta_at HC.out hF.b Hx.out).1, (sta_at HC.out hF.b Hx.out).2.1, (sta_at HC.out hF.b Hx.out).2.2, (sta_at HC.out hF.b Hy.out).1, (sta_at HC.out hF.b Hy.out).2.1, (sta_at HC.out hF.b Hy.out).2.2⟩) (by (repeat (with_reducible first | exact HV.out | apply Frm.drew | apply Frm.alloc | apply Frm.drewN | (refine Frm.set ?_ (by simp <;> omega) (by simp <;> omega) _)))))) (fail)
  all_goals
    go_wp2_with fail
    have hF := (((((Frm.nil w).add (mpBox m (.slice (some ⟨b, off, none⟩) cs.length c)) rfl).add (k := w.heap.size + 1) (mpBox m (.slice (some ⟨w.heap.size + 1 + 1 + 1, 0, none⟩) 2 2)) (by simp)).add (k := w.heap.size + 1 + 1) (mpBox m (.slice (some ⟨w.heap.size + 1 + 1 + 1, 0, none⟩) 2 2)) (by simp)).add (k := w.heap.size + 1 + 1 + 1) (.cells #[.int .i64 x.pt, .int .i64 x.lo, .int .i64 x.hi, .int .i64 y.pt, .int .i64 y.lo, .int .i64 y.hi] 79) (by simp))
    have u0 := hF.cells (List.mem_cons_of_mem _ (List.mem_cons_of_mem _ (List.mem_cons_self ..)))
    have u3 := hF.cells (List.mem_cons_self ..)
    refine bodyPost_ret (v := mpV m (.slice (some ⟨w.heap.size + 1 + 1 + 1, 0, none⟩) 2 2)) (by simp [results, Tryz.results28, go_sem, u0]) rfl ⟨_, rfl, ?_, ?_⟩
    · refine ⟨_, 2, rfl, Nat.le_refl _, by unfold maxLen; omega, .inr ⟨_, 0, rfl, by simp, fun j z hj => ?_⟩⟩
      first
        | exact stas_six (boxCells (hF.h _ (List.mem_cons_self ..))).1 j z hj
        | exact stas_six (boxCells (hF.drew.h _ (List.mem_cons_self ..))).1 j z hj
    · first | exact hF.b | exact hF.drew.b
end Go.Proofs.YtbabmiljfcfogaaGreatDoor
