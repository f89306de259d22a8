/- Both ends of what is made by a closure; what is known of a reading; by the program. -/
import Derived.Test.YtffgcphmakfikaaDoorKnow
set_option linter.unusedVariables false
set_option linter.unusedSimpArgs false
namespace Go.Proofs.YtffgcphmakfikaaDoor
open Go.RowKit Go.Maps
attribute [local simp] Holds.alloc Holds.drew Holds.setCell

theorem KnAt.self {w : World} {M n : Nat} {s : Stn} {cs : List Chk} {v : Value} {r : Rdg} {V R : Nat} {W : World} (h : KnAt w M n s cs v r V R W) : KnAt W M n s cs v r V R W :=
  ⟨World.grownBy.refl W _, h.b0, h.b1, h.k, h.c, h.h⟩
theorem KnAt.alloc {w : World} {M n : Nat} {s : Stn} {cs : List Chk} {v : Value} {r : Rdg} {V R : Nat} {W : World} (h : KnAt w M n s cs v r V R W) (o : Obj) : KnAt w M n s cs v r V R (W.alloc o) := h.below ((Below.refl _ _).alloc (Nat.le_refl _) o)
@[reducible] def weBox (m : Int) (t : Tru) : Obj := .cells #[.int .i64 (hereF m t), .int .i64 (loweredF (hereF m t) t), .int .i64 (humidF (hereF m t) t)] 53
@[reducible] def we0 : Obj := .cells #[.int .i64 0, .int .i64 0, .int .i64 0] 53
theorem grownBy_al {w W : World} {M : Nat} (h : w.grownBy W (some M)) (o : Obj) : w.grownBy (W.alloc o) (some M) :=
  ⟨h.os, h.tape, h.output, Nat.le_trans h.size (by simp), fun k hk hx => (Below.heap_alloc _ _ _ (Nat.lt_of_lt_of_le hk h.size)).trans (h.block k hk hx)⟩
theorem grownBy_dr {w W : World} {M : Nat} (h : w.grownBy W (some M)) : w.grownBy W.drew (some M) := ⟨h.os, h.tape, h.output, h.size, h.block⟩
theorem grownBy_tr {a b c : World} {M : Nat} (h : a.grownBy b (some M)) (k : b.grownBy c (some M)) : a.grownBy c (some M) :=
  ⟨k.os.trans h.os, k.tape.trans h.tape, k.output.trans h.output, Nat.le_trans h.size k.size, fun i hi hx => (k.block i (Nat.lt_of_lt_of_le hi h.size) hx).trans (h.block i hi hx)⟩
theorem Cache.alloc {w : World} {M n : Nat} {s : Stn} {cs : List Chk} (h : Cache w M n s cs) (o : Obj) : Cache (w.alloc o) M n s cs := h.below ((Below.refl _ _).alloc (Nat.le_refl _) o)

set_option maxHeartbeats 1000000 in
set_option maxRecDepth 100000 in
theorem ends_press (s : Stn) (cs : List Chk) (v : Value) (r : Rdg) (M n V R : Nat) (w : World) (hs : Good s cs) (hr : r.Good) (hE : KnAt w M n s cs v r V R w) (hn : n ≤ 999999) :
    Calls Tryd.prog 47 #[.func (.func 48) #[] #[.pointer (some ⟨R, 0, none⟩), .pointer (some ⟨V, 0, none⟩)]] w fun x w' => x = .returned (.tuple #[weF r.me (extF s cs r 0 (1 - 0) 0), weF r.me (extF s cs r 1 (1 - 1) 1)]) ∧ w.grownBy w' (some M) ∧ Cache w' M (n + 2) s cs := by
  have hM := hE.k.lt
  have HE := Lib.hid ((hE.alloc we0).alloc we0)
  have q0 : ((w.alloc we0).alloc we0).heap[w.heap.size]? = some we0 := (Below.heap_alloc _ _ _ (by simp)).trans (World.alloc_heap_new w _)
  have q1 : ((w.alloc we0).alloc we0).heap[w.heap.size + 1]? = some we0 := heap_new _ _ (by simp)
  have hz0 : ((w.alloc we0).alloc we0).heap.size = w.heap.size + 2 := by simp
  have Q0 := Lib.hid q0
  have Q1 := Lib.hid q1
  have Z0 := Lib.hid hz0
  clear q0 q1 hz0
  generalize ht0 : extF s cs r 0 (1 - 0) 0 = t0
  generalize ht1 : extF s cs r 1 (1 - 1) 1 = t1
  have Ht0 := Lib.hid ht0
  have Ht1 := Lib.hid ht1
  clear ht0 ht1
  go_enter Tryd.func47, Tryd.ntmps47
  go_wp2_with fail
  refine (pressAt s cs v r M n V R 0 _ hs hr HE.out.self (by omega) (by omega) (by omega)).mono ?_
  rw [Ht0.out]
  rintro x w1 ⟨rfl, hg1, hk1⟩
  have HE1 := Lib.hid (HE.out.grown hg1 hk1)
  have hz1 : w.heap.size + 2 ≤ w1.heap.size := by have := hg1.size; rw [Z0.out] at this; exact this
  have Q01 := Lib.hid ((hg1.block w.heap.size (by rw [Z0.out]; omega) (by simp; omega)).trans Q0.out)
  have Q11 := Lib.hid ((hg1.block (w.heap.size + 1) (by rw [Z0.out]; omega) (by simp; omega)).trans Q1.out)
  clear hg1 hk1 HE Q0 Q1 Z0
  go_wp2_with fail
  refine (pressAt s cs v r M (n + 1) V R 1 _ hs hr (HE1.out.alloc (weBox r.me t0)).self (by omega) (by omega) (by omega)).mono ?_
  rw [Ht1.out]
  rintro x w2 ⟨rfl, hg2, hk2⟩
  have HE2 := Lib.hid ((HE1.out.alloc (weBox r.me t0)).grown hg2 hk2)
  have hz2 : w1.heap.size + 1 ≤ w2.heap.size := by have := hg2.size; simpa using this
  have hMw1 : M < w1.heap.size := by omega
  have Q02 := Lib.hid ((hg2.block w.heap.size (by simp; omega) (by simp; omega)).trans ((Below.heap_alloc _ _ _ (by omega)).trans Q01.out))
  have Q12 := Lib.hid ((hg2.block (w.heap.size + 1) (by simp; omega) (by simp; omega)).trans ((Below.heap_alloc _ _ _ (by omega)).trans Q11.out))
  have Q22 := Lib.hid ((hg2.block w1.heap.size (by simp) (by simp; omega)).trans (World.alloc_heap_new w1 (weBox r.me t0)))
  clear hg2 hk2 HE1 Q01 Q11
  have d0 := (boxCells Q02.out).1; have d0f := (boxCells Q02.out).2
  have d1 := (boxCells Q12.out).1; have d1f := (boxCells Q12.out).2
  have d2 := (boxCells Q22.out).1
  have l0 : w.heap.size < w2.heap.size := by omega
  have l1 : w.heap.size + 1 < w2.heap.size := by omega
  have l2 : w1.heap.size < w2.heap.size := by omega
  have n1 : w1.heap.size ≠ w.heap.size := by omega
  have n2 : w1.heap.size ≠ w.heap.size + 1 := by omega
  have n3 : w2.heap.size ≠ w.heap.size := by omega
  have n4 : w2.heap.size ≠ w.heap.size + 1 := by omega
  have n5 : w.heap.size ≠ w1.heap.size := by omega
  have n6 : w.heap.size + 1 ≠ w1.heap.size := by omega
  have n7 : w.heap.size ≠ w2.heap.size := by omega
  have n8 : w.heap.size + 1 ≠ w2.heap.size := by omega
  have dA := (boxCells ((Below.heap_alloc w2 (weBox r.me t1) _ l2).trans Q22.out)).1
  have dB := (boxCells (World.alloc_heap_new w2 (weBox r.me t1))).1
  go_wp2_with fail
  go_region_held3 (fun w' => (∀ o, w'.cell? ⟨w1.heap.size, o, none⟩ = #[Value.int .i64 (hereF r.me t0), .int .i64 (loweredF (hereF r.me t0) t0), .int .i64 (humidF (hereF r.me t0) t0)][o]?) ∧ (∀ o, w'.cell? ⟨w2.heap.size, o, none⟩ = #[Value.int .i64 (hereF r.me t1), .int .i64 (loweredF (hereF r.me t1) t1), .int .i64 (humidF (hereF r.me t1) t1)][o]?)) ((simp (maxDischargeDepth := 10) [*, World.cell?_alloc_lt, World.cell?_alloc_at, World.cell?_setCell_far])) (fail)
  go_wp2
  have HG := HE2.out.g
  have HK := HE2.out.k
  have u0 : ((((((w2.setCell ⟨w.heap.size, 0, none⟩ (.int .i64 (hereF r.me t0))).setCell ⟨w.heap.size, 1, none⟩ (.int .i64 (loweredF (hereF r.me t0) t0))).setCell ⟨w.heap.size, 2, none⟩ (.int .i64 (humidF (hereF r.me t0) t0))).setCell ⟨w.heap.size + 1, 0, none⟩ (.int .i64 (hereF r.me t1))).setCell ⟨w.heap.size + 1, 1, none⟩ (.int .i64 (loweredF (hereF r.me t1) t1))).setCell ⟨w.heap.size + 1, 2, none⟩ (.int .i64 (humidF (hereF r.me t1) t1))).heap[w.heap.size]? = some (weBox r.me t0) :=
    (Below.heap_setCell _ _ _ _ (by simp)).trans ((Below.heap_setCell _ _ _ _ (by simp)).trans ((Below.heap_setCell _ _ _ _ (by simp)).trans (heap_setCell_same (o := 2) (heap_setCell_same (o := 1) (heap_setCell_same (o := 0) Q02.out (.int .i64 (hereF r.me t0))) (.int .i64 (loweredF (hereF r.me t0) t0))) (.int .i64 (humidF (hereF r.me t0) t0)))))
  have u1 : ((((((w2.setCell ⟨w.heap.size, 0, none⟩ (.int .i64 (hereF r.me t0))).setCell ⟨w.heap.size, 1, none⟩ (.int .i64 (loweredF (hereF r.me t0) t0))).setCell ⟨w.heap.size, 2, none⟩ (.int .i64 (humidF (hereF r.me t0) t0))).setCell ⟨w.heap.size + 1, 0, none⟩ (.int .i64 (hereF r.me t1))).setCell ⟨w.heap.size + 1, 1, none⟩ (.int .i64 (loweredF (hereF r.me t1) t1))).setCell ⟨w.heap.size + 1, 2, none⟩ (.int .i64 (humidF (hereF r.me t1) t1))).heap[w.heap.size + 1]? = some (weBox r.me t1) :=
    heap_setCell_same (o := 2) (heap_setCell_same (o := 1) (heap_setCell_same (o := 0) ((Below.heap_setCell _ _ _ _ (by simp)).trans ((Below.heap_setCell _ _ _ _ (by simp)).trans ((Below.heap_setCell _ _ _ _ (by simp)).trans Q12.out))) (.int .i64 (hereF r.me t1))) (.int .i64 (loweredF (hereF r.me t1) t1))) (.int .i64 (humidF (hereF r.me t1) t1))
  have g6 : w.grownBy ((((((w2.setCell ⟨w.heap.size, 0, none⟩ (.int .i64 (hereF r.me t0))).setCell ⟨w.heap.size, 1, none⟩ (.int .i64 (loweredF (hereF r.me t0) t0))).setCell ⟨w.heap.size, 2, none⟩ (.int .i64 (humidF (hereF r.me t0) t0))).setCell ⟨w.heap.size + 1, 0, none⟩ (.int .i64 (hereF r.me t1))).setCell ⟨w.heap.size + 1, 1, none⟩ (.int .i64 (loweredF (hereF r.me t1) t1))).setCell ⟨w.heap.size + 1, 2, none⟩ (.int .i64 (humidF (hereF r.me t1) t1))) (some M) := grownBy_sets (grownBy_sets (grownBy_sets (grownBy_sets (grownBy_sets (grownBy_sets HG (by simp) _) (by simp) _) (by simp) _) (by simp) _) (by simp) _) (by simp) _
  have k6 : Cache ((((((w2.setCell ⟨w.heap.size, 0, none⟩ (.int .i64 (hereF r.me t0))).setCell ⟨w.heap.size, 1, none⟩ (.int .i64 (loweredF (hereF r.me t0) t0))).setCell ⟨w.heap.size, 2, none⟩ (.int .i64 (humidF (hereF r.me t0) t0))).setCell ⟨w.heap.size + 1, 0, none⟩ (.int .i64 (hereF r.me t1))).setCell ⟨w.heap.size + 1, 1, none⟩ (.int .i64 (loweredF (hereF r.me t1) t1))).setCell ⟨w.heap.size + 1, 2, none⟩ (.int .i64 (humidF (hereF r.me t1) t1))) M (n + 1 + 1) s cs := (((((HK.setCell (by simp; omega) _).setCell (by simp; omega) _).setCell (by simp; omega) _).setCell (by simp; omega) _).setCell (by simp; omega) _).setCell (by simp; omega) _
  generalize ((((((w2.setCell ⟨w.heap.size, 0, none⟩ (.int .i64 (hereF r.me t0))).setCell ⟨w.heap.size, 1, none⟩ (.int .i64 (loweredF (hereF r.me t0) t0))).setCell ⟨w.heap.size, 2, none⟩ (.int .i64 (humidF (hereF r.me t0) t0))).setCell ⟨w.heap.size + 1, 0, none⟩ (.int .i64 (hereF r.me t1))).setCell ⟨w.heap.size + 1, 1, none⟩ (.int .i64 (loweredF (hereF r.me t1) t1))).setCell ⟨w.heap.size + 1, 2, none⟩ (.int .i64 (humidF (hereF r.me t1) t1))) = S6 at *
  have G6 := Lib.hid (grownBy_dr (grownBy_al g6 (weBox r.me t1)))
  have K6 := Lib.hid (k6.alloc (weBox r.me t1)).drew
  have v0 := (boxCells ((Below.heap_alloc S6 (weBox r.me t1) _ (Array.getElem?_eq_some_iff.1 u0).1).trans u0)).1
  have v1 := (boxCells ((Below.heap_alloc S6 (weBox r.me t1) _ (Array.getElem?_eq_some_iff.1 u1).1).trans u1)).1
  refine bodyPost_ret (v := .tuple #[weF r.me t0, weF r.me t1]) (by simp [results, Tryd.results47, go_sem, v0, v1]) rfl ⟨rfl, G6.out, K6.out⟩

set_option maxHeartbeats 1000000 in
set_option maxRecDepth 100000 in
theorem ends_damp (s : Stn) (cs : List Chk) (v : Value) (r : Rdg) (M n V R : Nat) (w : World) (hs : Good s cs) (hr : r.Good) (hE : KnAt w M n s cs v r V R w) (hn : n ≤ 999999) :
    Calls Tryd.prog 47 #[.func (.func 51) #[] #[.pointer (some ⟨R, 0, none⟩), .pointer (some ⟨V, 0, none⟩)]] w fun x w' => x = .returned (.tuple #[weF r.me (extF s cs r (1 - 0) (1 - 0) 0), weF r.me (extF s cs r (1 - 1) (1 - 1) 1)]) ∧ w.grownBy w' (some M) ∧ Cache w' M (n + 2) s cs := by
  have hM := hE.k.lt
  have HE := Lib.hid ((hE.alloc we0).alloc we0)
  have q0 : ((w.alloc we0).alloc we0).heap[w.heap.size]? = some we0 := (Below.heap_alloc _ _ _ (by simp)).trans (World.alloc_heap_new w _)
  have q1 : ((w.alloc we0).alloc we0).heap[w.heap.size + 1]? = some we0 := heap_new _ _ (by simp)
  have hz0 : ((w.alloc we0).alloc we0).heap.size = w.heap.size + 2 := by simp
  have Q0 := Lib.hid q0
  have Q1 := Lib.hid q1
  have Z0 := Lib.hid hz0
  clear q0 q1 hz0
  generalize ht0 : extF s cs r (1 - 0) (1 - 0) 0 = t0
  generalize ht1 : extF s cs r (1 - 1) (1 - 1) 1 = t1
  have Ht0 := Lib.hid ht0
  have Ht1 := Lib.hid ht1
  clear ht0 ht1
  go_enter Tryd.func47, Tryd.ntmps47
  go_wp2_with fail
  refine (dampAt s cs v r M n V R 0 _ hs hr HE.out.self (by omega) (by omega) (by omega)).mono ?_
  rw [Ht0.out]
  rintro x w1 ⟨rfl, hg1, hk1⟩
  have HE1 := Lib.hid (HE.out.grown hg1 hk1)
  have hz1 : w.heap.size + 2 ≤ w1.heap.size := by have := hg1.size; rw [Z0.out] at this; exact this
  have Q01 := Lib.hid ((hg1.block w.heap.size (by rw [Z0.out]; omega) (by simp; omega)).trans Q0.out)
  have Q11 := Lib.hid ((hg1.block (w.heap.size + 1) (by rw [Z0.out]; omega) (by simp; omega)).trans Q1.out)
  clear hg1 hk1 HE Q0 Q1 Z0
  go_wp2_with fail
  refine (dampAt s cs v r M (n + 1) V R 1 _ hs hr (HE1.out.alloc (weBox r.me t0)).self (by omega) (by omega) (by omega)).mono ?_
  rw [Ht1.out]
  rintro x w2 ⟨rfl, hg2, hk2⟩
  have HE2 := Lib.hid ((HE1.out.alloc (weBox r.me t0)).grown hg2 hk2)
  have hz2 : w1.heap.size + 1 ≤ w2.heap.size := by have := hg2.size; simpa using this
  have hMw1 : M < w1.heap.size := by omega
  have Q02 := Lib.hid ((hg2.block w.heap.size (by simp; omega) (by simp; omega)).trans ((Below.heap_alloc _ _ _ (by omega)).trans Q01.out))
  have Q12 := Lib.hid ((hg2.block (w.heap.size + 1) (by simp; omega) (by simp; omega)).trans ((Below.heap_alloc _ _ _ (by omega)).trans Q11.out))
  have Q22 := Lib.hid ((hg2.block w1.heap.size (by simp) (by simp; omega)).trans (World.alloc_heap_new w1 (weBox r.me t0)))
  clear hg2 hk2 HE1 Q01 Q11
  have d0 := (boxCells Q02.out).1; have d0f := (boxCells Q02.out).2
  have d1 := (boxCells Q12.out).1; have d1f := (boxCells Q12.out).2
  have d2 := (boxCells Q22.out).1
  have l0 : w.heap.size < w2.heap.size := by omega
  have l1 : w.heap.size + 1 < w2.heap.size := by omega
  have l2 : w1.heap.size < w2.heap.size := by omega
  have n1 : w1.heap.size ≠ w.heap.size := by omega
  have n2 : w1.heap.size ≠ w.heap.size + 1 := by omega
  have n3 : w2.heap.size ≠ w.heap.size := by omega
  have n4 : w2.heap.size ≠ w.heap.size + 1 := by omega
  have n5 : w.heap.size ≠ w1.heap.size := by omega
  have n6 : w.heap.size + 1 ≠ w1.heap.size := by omega
  have n7 : w.heap.size ≠ w2.heap.size := by omega
  have n8 : w.heap.size + 1 ≠ w2.heap.size := by omega
  have dA := (boxCells ((Below.heap_alloc w2 (weBox r.me t1) _ l2).trans Q22.out)).1
  have dB := (boxCells (World.alloc_heap_new w2 (weBox r.me t1))).1
  go_wp2_with fail
  go_region_held3 (fun w' => (∀ o, w'.cell? ⟨w1.heap.size, o, none⟩ = #[Value.int .i64 (hereF r.me t0), .int .i64 (loweredF (hereF r.me t0) t0), .int .i64 (humidF (hereF r.me t0) t0)][o]?) ∧ (∀ o, w'.cell? ⟨w2.heap.size, o, none⟩ = #[Value.int .i64 (hereF r.me t1), .int .i64 (loweredF (hereF r.me t1) t1), .int .i64 (humidF (hereF r.me t1) t1)][o]?)) ((simp (maxDischargeDepth := 10) [*, World.cell?_alloc_lt, World.cell?_alloc_at, World.cell?_setCell_far])) (fail)
  go_wp2
  have HG := HE2.out.g
  have HK := HE2.out.k
  have u0 : ((((((w2.setCell ⟨w.heap.size, 0, none⟩ (.int .i64 (hereF r.me t0))).setCell ⟨w.heap.size, 1, none⟩ (.int .i64 (loweredF (hereF r.me t0) t0))).setCell ⟨w.heap.size, 2, none⟩ (.int .i64 (humidF (hereF r.me t0) t0))).setCell ⟨w.heap.size + 1, 0, none⟩ (.int .i64 (hereF r.me t1))).setCell ⟨w.heap.size + 1, 1, none⟩ (.int .i64 (loweredF (hereF r.me t1) t1))).setCell ⟨w.heap.size + 1, 2, none⟩ (.int .i64 (humidF (hereF r.me t1) t1))).heap[w.heap.size]? = some (weBox r.me t0) :=
    (Below.heap_setCell _ _ _ _ (by simp)).trans ((Below.heap_setCell _ _ _ _ (by simp)).trans ((Below.heap_setCell _ _ _ _ (by simp)).trans (heap_setCell_same (o := 2) (heap_setCell_same (o := 1) (heap_setCell_same (o := 0) Q02.out (.int .i64 (hereF r.me t0))) (.int .i64 (loweredF (hereF r.me t0) t0))) (.int .i64 (humidF (hereF r.me t0) t0)))))
  have u1 : ((((((w2.setCell ⟨w.heap.size, 0, none⟩ (.int .i64 (hereF r.me t0))).setCell ⟨w.heap.size, 1, none⟩ (.int .i64 (loweredF (hereF r.me t0) t0))).setCell ⟨w.heap.size, 2, none⟩ (.int .i64 (humidF (hereF r.me t0) t0))).setCell ⟨w.heap.size + 1, 0, none⟩ (.int .i64 (hereF r.me t1))).setCell ⟨w.heap.size + 1, 1, none⟩ (.int .i64 (loweredF (hereF r.me t1) t1))).setCell ⟨w.heap.size + 1, 2, none⟩ (.int .i64 (humidF (hereF r.me t1) t1))).heap[w.heap.size + 1]? = some (weBox r.me t1) :=
    heap_setCell_same (o := 2) (heap_setCell_same (o := 1) (heap_setCell_same (o := 0) ((Below.heap_setCell _ _ _ _ (by simp)).trans ((Below.heap_setCell _ _ _ _ (by simp)).trans ((Below.heap_setCell _ _ _ _ (by simp)).trans Q12.out))) (.int .i64 (hereF r.me t1))) (.int .i64 (loweredF (hereF r.me t1) t1))) (.int .i64 (humidF (hereF r.me t1) t1))
  have g6 : w.grownBy ((((((w2.setCell ⟨w.heap.size, 0, none⟩ (.int .i64 (hereF r.me t0))).setCell ⟨w.heap.size, 1, none⟩ (.int .i64 (loweredF (hereF r.me t0) t0))).setCell ⟨w.heap.size, 2, none⟩ (.int .i64 (humidF (hereF r.me t0) t0))).setCell ⟨w.heap.size + 1, 0, none⟩ (.int .i64 (hereF r.me t1))).setCell ⟨w.heap.size + 1, 1, none⟩ (.int .i64 (loweredF (hereF r.me t1) t1))).setCell ⟨w.heap.size + 1, 2, none⟩ (.int .i64 (humidF (hereF r.me t1) t1))) (some M) := grownBy_sets (grownBy_sets (grownBy_sets (grownBy_sets (grownBy_sets (grownBy_sets HG (by simp) _) (by simp) _) (by simp) _) (by simp) _) (by simp) _) (by simp) _
  have k6 : Cache ((((((w2.setCell ⟨w.heap.size, 0, none⟩ (.int .i64 (hereF r.me t0))).setCell ⟨w.heap.size, 1, none⟩ (.int .i64 (loweredF (hereF r.me t0) t0))).setCell ⟨w.heap.size, 2, none⟩ (.int .i64 (humidF (hereF r.me t0) t0))).setCell ⟨w.heap.size + 1, 0, none⟩ (.int .i64 (hereF r.me t1))).setCell ⟨w.heap.size + 1, 1, none⟩ (.int .i64 (loweredF (hereF r.me t1) t1))).setCell ⟨w.heap.size + 1, 2, none⟩ (.int .i64 (humidF (hereF r.me t1) t1))) M (n + 1 + 1) s cs := (((((HK.setCell (by simp; omega) _).setCell (by simp; omega) _).setCell (by simp; omega) _).setCell (by simp; omega) _).setCell (by simp; omega) _).setCell (by simp; omega) _
  generalize ((((((w2.setCell ⟨w.heap.size, 0, none⟩ (.int .i64 (hereF r.me t0))).setCell ⟨w.heap.size, 1, none⟩ (.int .i64 (loweredF (hereF r.me t0) t0))).setCell ⟨w.heap.size, 2, none⟩ (.int .i64 (humidF (hereF r.me t0) t0))).setCell ⟨w.heap.size + 1, 0, none⟩ (.int .i64 (hereF r.me t1))).setCell ⟨w.heap.size + 1, 1, none⟩ (.int .i64 (loweredF (hereF r.me t1) t1))).setCell ⟨w.heap.size + 1, 2, none⟩ (.int .i64 (humidF (hereF r.me t1) t1))) = S6 at *
  have G6 := Lib.hid (grownBy_dr (grownBy_al g6 (weBox r.me t1)))
  have K6 := Lib.hid (k6.alloc (weBox r.me t1)).drew
  have v0 := (boxCells ((Below.heap_alloc S6 (weBox r.me t1) _ (Array.getElem?_eq_some_iff.1 u0).1).trans u0)).1
  have v1 := (boxCells ((Below.heap_alloc S6 (weBox r.me t1) _ (Array.getElem?_eq_some_iff.1 u1).1).trans u1)).1
  refine bodyPost_ret (v := .tuple #[weF r.me t0, weF r.me t1]) (by simp [results, Tryd.results47, go_sem, v0, v1]) rfl ⟨rfl, G6.out, K6.out⟩
end Go.Proofs.YtffgcphmakfikaaDoor
