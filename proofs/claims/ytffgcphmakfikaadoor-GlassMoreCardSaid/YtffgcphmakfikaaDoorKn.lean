/- What is known of a reading, by the program. -/
import Derived.Test.YtffgcphmakfikaaDoorEnds
set_option linter.unusedVariables false
set_option linter.unusedSimpArgs false
namespace Go.Proofs.YtffgcphmakfikaaDoor
open Go.RowKit Go.Maps
attribute [local simp] Holds.alloc Holds.drew Holds.setCell

/-- Between which bounds pressures and humidity lie. -/
@[reducible] def knV (s : Stn) (cs : List Chk) (r : Rdg) : Value :=
  .agg #[.int .i64 (hereF r.me (extF s cs r 0 1 0)), .int .i64 (hereF r.me (extF s cs r 1 0 1)),
    .int .i64 (loweredF (hereF r.me (extF s cs r 0 1 0)) (extF s cs r 0 1 0)), .int .i64 (loweredF (hereF r.me (extF s cs r 1 0 1)) (extF s cs r 1 0 1)),
    .int .i64 (humidF (hereF r.me (extF s cs r 1 1 0)) (extF s cs r 1 1 0)), .int .i64 (humidF (hereF r.me (extF s cs r 0 0 1)) (extF s cs r 0 0 1))]

set_option maxHeartbeats 1000000 in
set_option maxRecDepth 100000 in
theorem known_any (s : Stn) (cs : List Chk) (v : Value) (r : Rdg) (M n : Nat) (w : World) (hs : Good s cs) (hr : r.Good) (hc : Chks w v cs) (hk : Cache w M n s cs) (hh : Holds w) (hn : n ≤ 999000) :
    Calls Tryd.prog 32 #[vwV s v (.map (some M)), rdV r] w fun x w' => x = .returned (knV s cs r) ∧ w.grownBy w' (some M) ∧ Cache w' M (n + 4) s cs := by
  have hM := hk.lt
  have hb3 : Below w.heap.size w (((w.alloc (vwBox s v (.map (some M)))).alloc (rdBox r)).alloc (.cells #[.int .i64 0, .int .i64 0, .int .i64 0, .int .i64 0, .int .i64 0, .int .i64 0] 37)) := (((Below.refl _ _).alloc (Nat.le_refl _) _).alloc (by simp) _).alloc (by simp; omega) _
  have HE : Hid (KnAt w M n s cs v r w.heap.size (w.heap.size + 1) (((w.alloc (vwBox s v (.map (some M)))).alloc (rdBox r)).alloc (.cells #[.int .i64 0, .int .i64 0, .int .i64 0, .int .i64 0, .int .i64 0, .int .i64 0] 37))) := Lib.hid ⟨grownBy_row hb3 M, (Below.heap_alloc _ _ _ (by simp; omega)).trans ((Below.heap_alloc _ _ _ (by simp)).trans (World.alloc_heap_new w _)), (Below.heap_alloc _ _ _ (by simp)).trans (heap_new _ _ (by simp)), hk.below hb3, hc.below hb3, hh.below hb3⟩
  have HR : Hid ((((w.alloc (vwBox s v (.map (some M)))).alloc (rdBox r)).alloc (.cells #[.int .i64 0, .int .i64 0, .int .i64 0, .int .i64 0, .int .i64 0, .int .i64 0] 37)).heap[w.heap.size + 1 + 1]? = some (.cells #[.int .i64 0, .int .i64 0, .int .i64 0, .int .i64 0, .int .i64 0, .int .i64 0] 37)) := Lib.hid (heap_new _ _ (by simp))
  have HZ : Hid ((((w.alloc (vwBox s v (.map (some M)))).alloc (rdBox r)).alloc (.cells #[.int .i64 0, .int .i64 0, .int .i64 0, .int .i64 0, .int .i64 0, .int .i64 0] 37)).heap.size = w.heap.size + 3) := Lib.hid (by simp)
  clear hb3
  have HV := Lib.hid (show knV s cs r = knV s cs r from rfl)
  generalize ht0 : extF s cs r 0 (1 - 0) 0 = t0
  generalize ht1 : extF s cs r 1 (1 - 1) 1 = t1
  generalize ha0 : extF s cs r (1 - 0) (1 - 0) 0 = a0
  generalize ha1 : extF s cs r (1 - 1) (1 - 1) 1 = a1
  have Ht0 := Lib.hid ht0; have Ht1 := Lib.hid ht1; have Ha0 := Lib.hid ha0; have Ha1 := Lib.hid ha1
  clear ht0 ht1 ha0 ha1
  go_enter Tryd.func32, Tryd.ntmps32
  go_wp2_with fail
  refine (ends_press s cs v r M n w.heap.size (w.heap.size + 1) _ hs hr HE.out.self (by omega)).mono ?_
  rw [Ht0.out, Ht1.out]
  rintro x w1 ⟨rfl, hg1, hk1⟩
  have HE1 := Lib.hid (HE.out.grown hg1 hk1)
  have HR1 := Lib.hid ((hg1.block (w.heap.size + 1 + 1) (by rw [HZ.out]; omega) (by simp; omega)).trans HR.out)
  have hz1 : w.heap.size + 3 ≤ w1.heap.size := by have := hg1.size; rw [HZ.out] at this; exact this
  clear hg1 hk1 HE HR HZ
  go_wp2_with fail
  refine (ends_damp s cs v r M (n + 2) w.heap.size (w.heap.size + 1) _ hs hr ((HE1.out.alloc (weBox r.me t0)).alloc (weBox r.me t1)).self (by omega)).mono ?_
  rw [Ha0.out, Ha1.out]
  rintro x w2 ⟨rfl, hg2, hk2⟩
  have HE2 := Lib.hid (((HE1.out.alloc (weBox r.me t0)).alloc (weBox r.me t1)).grown hg2 hk2)
  have hz2 : w1.heap.size + 2 ≤ w2.heap.size := by have := hg2.size; simpa using this
  have R2 := (hg2.block (w.heap.size + 1 + 1) (by simp; omega) (by simp; omega)).trans ((Below.heap_alloc _ _ _ (by simp; omega)).trans ((Below.heap_alloc _ _ _ (by omega)).trans HR1.out))
  have P0 := (hg2.block w1.heap.size (by simp; omega) (by simp; omega)).trans ((Below.heap_alloc _ _ _ (by simp)).trans (World.alloc_heap_new w1 (weBox r.me t0)))
  have P1 := (hg2.block (w1.heap.size + 1) (by simp) (by simp; omega)).trans (heap_new (w1.alloc (weBox r.me t0)) (weBox r.me t1) (by simp))
  have hMw : M < w.heap.size := hM
  clear hg2 hk2 HE1 HR1
  have r2 := (boxCells R2).1; have r2f := (boxCells R2).2
  have p0 := (boxCells P0).1; have p1 := (boxCells P1).1
  have HR2 := Lib.hid R2
  clear R2 P0 P1
  have l1 : w1.heap.size < w2.heap.size := by omega
  have l2 : w1.heap.size + 1 < w2.heap.size := by omega
  have l3 : w.heap.size + 1 + 1 < w2.heap.size := by omega
  have l4 : w.heap.size + 1 < w2.heap.size := by omega
  go_wp2
  have HG := HE2.out.g
  have HK := HE2.out.k
  have u0 : ((((((w2.setCell ⟨w.heap.size + 1 + 1, 0, none⟩ (.int .i64 (hereF r.me t0))).setCell ⟨w.heap.size + 1 + 1, 1, none⟩ (.int .i64 (hereF r.me t1))).setCell ⟨w.heap.size + 1 + 1, 2, none⟩ (.int .i64 (loweredF (hereF r.me t0) t0))).setCell ⟨w.heap.size + 1 + 1, 3, none⟩ (.int .i64 (loweredF (hereF r.me t1) t1))).setCell ⟨w.heap.size + 1 + 1, 4, none⟩ (.int .i64 (humidF (hereF r.me a0) a0))).setCell ⟨w.heap.size + 1 + 1, 5, none⟩ (.int .i64 (humidF (hereF r.me a1) a1))).heap[w.heap.size + 1 + 1]? = some (.cells #[.int .i64 (hereF r.me t0), .int .i64 (hereF r.me t1), .int .i64 (loweredF (hereF r.me t0) t0), .int .i64 (loweredF (hereF r.me t1) t1), .int .i64 (humidF (hereF r.me a0) a0), .int .i64 (humidF (hereF r.me a1) a1)] 37) := (heap_setCell_same (o := 5) (heap_setCell_same (o := 4) (heap_setCell_same (o := 3) (heap_setCell_same (o := 2) (heap_setCell_same (o := 1) (heap_setCell_same (o := 0) HR2.out (.int .i64 (hereF r.me t0))) (.int .i64 (hereF r.me t1))) (.int .i64 (loweredF (hereF r.me t0) t0))) (.int .i64 (loweredF (hereF r.me t1) t1))) (.int .i64 (humidF (hereF r.me a0) a0))) (.int .i64 (humidF (hereF r.me a1) a1)))
  have g6 : w.grownBy ((((((w2.setCell ⟨w.heap.size + 1 + 1, 0, none⟩ (.int .i64 (hereF r.me t0))).setCell ⟨w.heap.size + 1 + 1, 1, none⟩ (.int .i64 (hereF r.me t1))).setCell ⟨w.heap.size + 1 + 1, 2, none⟩ (.int .i64 (loweredF (hereF r.me t0) t0))).setCell ⟨w.heap.size + 1 + 1, 3, none⟩ (.int .i64 (loweredF (hereF r.me t1) t1))).setCell ⟨w.heap.size + 1 + 1, 4, none⟩ (.int .i64 (humidF (hereF r.me a0) a0))).setCell ⟨w.heap.size + 1 + 1, 5, none⟩ (.int .i64 (humidF (hereF r.me a1) a1))) (some M) := (grownBy_sets (grownBy_sets (grownBy_sets (grownBy_sets (grownBy_sets (grownBy_sets HG (by simp; omega) _) (by simp; omega) _) (by simp; omega) _) (by simp; omega) _) (by simp; omega) _) (by simp; omega) _)
  have k6 : Cache ((((((w2.setCell ⟨w.heap.size + 1 + 1, 0, none⟩ (.int .i64 (hereF r.me t0))).setCell ⟨w.heap.size + 1 + 1, 1, none⟩ (.int .i64 (hereF r.me t1))).setCell ⟨w.heap.size + 1 + 1, 2, none⟩ (.int .i64 (loweredF (hereF r.me t0) t0))).setCell ⟨w.heap.size + 1 + 1, 3, none⟩ (.int .i64 (loweredF (hereF r.me t1) t1))).setCell ⟨w.heap.size + 1 + 1, 4, none⟩ (.int .i64 (humidF (hereF r.me a0) a0))).setCell ⟨w.heap.size + 1 + 1, 5, none⟩ (.int .i64 (humidF (hereF r.me a1) a1))) M (n + 2 + 2) s cs := ((((((HK.setCell (by simp; omega) _).setCell (by simp; omega) _).setCell (by simp; omega) _).setCell (by simp; omega) _).setCell (by simp; omega) _).setCell (by simp; omega) _)
  have z6 : ((((((w2.setCell ⟨w.heap.size + 1 + 1, 0, none⟩ (.int .i64 (hereF r.me t0))).setCell ⟨w.heap.size + 1 + 1, 1, none⟩ (.int .i64 (hereF r.me t1))).setCell ⟨w.heap.size + 1 + 1, 2, none⟩ (.int .i64 (loweredF (hereF r.me t0) t0))).setCell ⟨w.heap.size + 1 + 1, 3, none⟩ (.int .i64 (loweredF (hereF r.me t1) t1))).setCell ⟨w.heap.size + 1 + 1, 4, none⟩ (.int .i64 (humidF (hereF r.me a0) a0))).setCell ⟨w.heap.size + 1 + 1, 5, none⟩ (.int .i64 (humidF (hereF r.me a1) a1))).heap.size = w2.heap.size := by simp [World.setCell]
  generalize ((((((w2.setCell ⟨w.heap.size + 1 + 1, 0, none⟩ (.int .i64 (hereF r.me t0))).setCell ⟨w.heap.size + 1 + 1, 1, none⟩ (.int .i64 (hereF r.me t1))).setCell ⟨w.heap.size + 1 + 1, 2, none⟩ (.int .i64 (loweredF (hereF r.me t0) t0))).setCell ⟨w.heap.size + 1 + 1, 3, none⟩ (.int .i64 (loweredF (hereF r.me t1) t1))).setCell ⟨w.heap.size + 1 + 1, 4, none⟩ (.int .i64 (humidF (hereF r.me a0) a0))).setCell ⟨w.heap.size + 1 + 1, 5, none⟩ (.int .i64 (humidF (hereF r.me a1) a1))) = S6 at *
  have G6 := Lib.hid (grownBy_al (grownBy_al g6 (weBox r.me a0)) (weBox r.me a1))
  have K6 := Lib.hid ((k6.alloc (weBox r.me a0)).alloc (weBox r.me a1))
  have v0 := (boxCells ((Below.heap_alloc (S6.alloc (weBox r.me a0)) (weBox r.me a1) _ (by simp; omega)).trans ((Below.heap_alloc S6 (weBox r.me a0) _ (by omega)).trans u0))).1
  refine bodyPost_ret (v := .agg #[.int .i64 (hereF r.me t0), .int .i64 (hereF r.me t1), .int .i64 (loweredF (hereF r.me t0) t0), .int .i64 (loweredF (hereF r.me t1) t1), .int .i64 (humidF (hereF r.me a0) a0), .int .i64 (humidF (hereF r.me a1) a1)]) (by simp [results, Tryd.results32, go_sem, v0]) rfl ⟨by rw [← Ht0.out, ← Ht1.out, ← Ha0.out, ← Ha1.out] <;> rfl, G6.out, K6.out⟩
end Go.Proofs.YtffgcphmakfikaaDoor
