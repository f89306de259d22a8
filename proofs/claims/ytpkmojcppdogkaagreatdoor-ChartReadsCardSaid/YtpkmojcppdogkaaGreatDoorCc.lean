/- Two stations that contradict each other, by the program and by the reference. -/
import Derived.Test.YtpkmojcppdogkaaGreatDoorCm
import Derived.Deep.LoopGhost
set_option linter.unusedVariables false
set_option linter.unusedSimpArgs false
namespace Go.Proofs.YtpkmojcppdogkaaGreatDoor
open Go.RowKit
theorem blk_dr {W : World} {k : Nat} {o : Obj} (h : W.heap[k]? = some o) : W.drew.heap[k]? = some o := h
theorem sta_at {w W : World} {b off cap i : Nat} {cs : List Sta} {x : Sta} (h : Stas w (.slice (some ⟨b, off, none⟩) cs.length cap) cs) (hb : Below w.heap.size w W) (hi : cs[i]? = some x) :
    W.cell? ⟨b, off + i * 3, none⟩ = some (.int .i64 x.pt) ∧ W.cell? ⟨b, off + i * 3 + 1, none⟩ = some (.int .i64 x.lo) ∧ W.cell? ⟨b, off + i * 3 + 2, none⟩ = some (.int .i64 x.hi) := by
  obtain ⟨b', off', hA, _, _, c0, c1, c2⟩ := sta_cells (h.below hb) hi
  obtain ⟨rfl, rfl⟩ : b = b' ∧ off = off' := by simpa using hA
  exact ⟨c0, c1, c2⟩
set_option maxHeartbeats 4000000 in
set_option maxRecDepth 100000 in
theorem contradict_any (m : Mp) (cs : List Sta) (A : Option Addr) (c i k : Nat) (x y : Sta) (w : World) (hs : Sane m cs) (hc : Stas w (.slice A cs.length c) cs) (hx : cs[i]? = some x) (hy : cs[k]? = some y) :
    Calls Tryz.prog 121 #[viewV m.wd m.rw m.sl (.slice A cs.length c), .agg #[.int .i64 i, .int .i64 k]] w fun e w' => e = .returned (.bool (contB m x y)) ∧ Below w.heap.size w w' := by
  have hsx := hs.all x (List.mem_of_getElem? hx)
  have hsy := hs.all y (List.mem_of_getElem? hy)
  obtain ⟨a0, a1, a2, a3, a4⟩ := hsx
  obtain ⟨b0, b1, b2, b3, b4⟩ := hsy
  have hil : i < cs.length := (List.getElem?_eq_some_iff.1 hx).1
  have hkl : k < cs.length := (List.getElem?_eq_some_iff.1 hy).1
  have hl12 := hs.len
  have ok := hs.ok
  have ar := ok.a2
  have w1 := ok.w1; have w2 := ok.w2; have s0 := ok.s0; have s1 := ok.s1
  have i1 : (0 : Int) ≤ i := by omega
  have i2 : (i : Int) < cs.length := by omega
  have k1 : (0 : Int) ≤ k := by omega
  have k2 : (k : Int) < cs.length := by omega
  obtain ⟨b, off, hA, hcap, hmx, -⟩ := sta_cells hc hx
  unfold maxLen at hmx
  subst hA
  have HC := Lib.hid hc
  have Hx := Lib.hid hx
  have Hy := Lib.hid hy
  have HS := Lib.hid (show decide (m.sl * distI m.wd x.pt y.pt < max (x.lo - y.hi) (y.lo - x.hi)) = contB m x y from rfl)
  obtain ⟨d0, d1, d2, d3⟩ := dist_bd (wd := m.wd) (a := x.pt) (b := y.pt) w1 (by omega) (by omega) (by omega) (by omega)
  have p0 : 0 ≤ m.sl * distI m.wd x.pt y.pt := sl_nonneg s0
  have p1 : m.sl * distI m.wd x.pt y.pt ≤ 1000000 * 2000000 := Int.mul_le_mul (by omega) (by unfold distI; omega) (by unfold distI; omega) (by omega)
  have HR := Lib.hid (((Frm.nil w).add (.cells #[.int .i64 m.wd, .int .i64 m.rw, .int .i64 m.sl, (.slice (some ⟨b, off, none⟩) cs.length c), .int .i64 m.wd, .int .i64 m.rw] 87) rfl).add (k := w.heap.size + 1) (.cells #[.int .i64 i, .int .i64 k] 128) (by simp))
  have x0 := HR.out.cells (List.mem_cons_self ..)
  have x1 := HR.out.cells (List.mem_cons_of_mem _ (List.mem_cons_self ..))
  clear hc hx hy
  go_enter Tryz.func121, Tryz.ntmps121
  go_upto_region 1 with fail
  go_cut [5, 6] (fun s7 s8 wx => ∃ P Q : Nat, P ≠ Q ∧ s7 = .pointer (some ⟨P, 0, none⟩) ∧ s8 = .pointer (some ⟨Q, 0, none⟩) ∧ Frm w [(P, stBox x), (Q, stBox y), (w.heap.size + 1, (.cells #[.int .i64 i, .int .i64 k] 128)), (w.heap.size, (.cells #[.int .i64 m.wd, .int .i64 m.rw, .int .i64 m.sl, (.slice (some ⟨b, off, none⟩) cs.length c), .int .i64 m.wd, .int .i64 m.rw] 87))] wx)
  case first =>
    go_region_held3 (fun w' => (∀ o, w'.cell? ⟨w.heap.size + 1, o, none⟩ = #[Value.int .i64 i, .int .i64 k][o]?) ∧ (∀ o, w'.cell? ⟨w.heap.size, o, none⟩ = #[Value.int .i64 m.wd, .int .i64 m.rw, .int .i64 m.sl, (.slice (some ⟨b, off, none⟩) cs.length c), .int .i64 m.wd, .int .i64 m.rw][o]?) ∧ w'.cell? ⟨b, off + i * 3, none⟩ = some (.int .i64 x.pt) ∧ w'.cell? ⟨b, off + i * 3 + 1, none⟩ = some (.int .i64 x.lo) ∧ w'.cell? ⟨b, off + i * 3 + 2, none⟩ = some (.int .i64 x.hi) ∧ w'.cell? ⟨b, off + k * 3, none⟩ = some (.int .i64 y.pt) ∧ w'.cell? ⟨b, off + k * 3 + 1, none⟩ = some (.int .i64 y.lo) ∧ w'.cell? ⟨b, off + k * 3 + 2, none⟩ = some (.int .i64 y.hi)) ((exact (fun hF : Frm w [(w.heap.size + 1, (.cells #[.int .i64 i, .int .i64 k] 128)), (w.heap.size, (.cells #[.int .i64 m.wd, .int .i64 m.rw, .int .i64 m.sl, (.slice (some ⟨b, off, none⟩) cs.length c), .int .i64 m.wd, .int .i64 m.rw] 87))] _ => ⟨hF.cells (List.mem_cons_self ..), hF.cells (List.mem_cons_of_mem _ (List.mem_cons_self ..)), (sta_at HC.out hF.b Hx.out).1, (sta_at HC.out hF.b Hx.out).2.1, (sta_at HC.out hF.b Hx.out).2.2, (sta_at HC.out hF.b Hy.out).1, (sta_at HC.out hF.b Hy.out).2.1, (sta_at HC.out hF.b Hy.out).2.2⟩) (by (repeat (with_reducible first | exact HR.out | apply Frm.drew | apply Frm.alloc | apply Frm.drewN))))) (fail)
    all_goals
      go_wp2_with fail
      go_meet
      refine ⟨_, _, ?_, rfl, rfl, ⟨?_, fun p hp => ?_⟩⟩
      · simp
      · exact (Frm.b (w := w) (bs := [(w.heap.size + 1, (.cells #[.int .i64 i, .int .i64 k] 128)), (w.heap.size, (.cells #[.int .i64 m.wd, .int .i64 m.rw, .int .i64 m.sl, (.slice (some ⟨b, off, none⟩) cs.length c), .int .i64 m.wd, .int .i64 m.rw] 87))]) (by (repeat (with_reducible first | exact HR.out | apply Frm.drew | apply Frm.alloc | apply Frm.drewN))))
      · simp only [List.mem_cons, List.not_mem_nil, or_false] at hp
        rcases hp with rfl | rfl | rfl | rfl
        · (repeat (with_reducible first | exact heap_new _ _ (by simp) | apply blk_alloc | apply blk_dr))
        · (repeat (with_reducible first | exact heap_new _ _ (by simp) | apply blk_alloc | apply blk_dr))
        all_goals exact (Frm.h (w := w) (bs := [(w.heap.size + 1, (.cells #[.int .i64 i, .int .i64 k] 128)), (w.heap.size, (.cells #[.int .i64 m.wd, .int .i64 m.rw, .int .i64 m.sl, (.slice (some ⟨b, off, none⟩) cs.length c), .int .i64 m.wd, .int .i64 m.rw] 87))]) (by (repeat (with_reducible first | exact HR.out | apply Frm.drew | apply Frm.alloc | apply Frm.drewN)))) _ (by simp)
  case rest =>
    obtain ⟨P, Q, hPQ, rfl, rfl, hF⟩ := hcut
    clear HR x0 x1
    have HR := Lib.hid hF
    clear hF
    have x0 := HR.out.cells (List.mem_cons_self ..)
    have x1 := HR.out.cells (List.mem_cons_of_mem _ (List.mem_cons_self ..))
    have x2 := HR.out.cells (List.mem_cons_of_mem _ (List.mem_cons_of_mem _ (List.mem_cons_self ..)))
    have x3 := HR.out.cells (List.mem_cons_of_mem _ (List.mem_cons_of_mem _ (List.mem_cons_of_mem _ (List.mem_cons_self ..))))
    have HD := Lib.hid (fun W => change_any m.wd m.rw m.sl x.pt y.pt (.slice (some ⟨b, off, none⟩) cs.length c) W w1 (by omega) s0 (by omega) (by omega) (by omega) (by omega) (by omega))
    have e1 : IntKind.i64.wrap (x.lo - y.hi) = x.lo - y.hi := IntWalk.i64_in _ (by omega)
    have e2 : IntKind.i64.wrap (y.lo - x.hi) = y.lo - x.hi := IntWalk.i64_in _ (by omega)
    clear d0 d1 d2 d3
    generalize m.sl * distI m.wd x.pt y.pt = q at *
    by_cases hq : q < max (x.lo - y.hi) (y.lo - x.hi)
    all_goals
      go_upto_region 3 with (go_at_call 118; refine (greatest_two _ (y.lo - x.hi) _ _ _ (by go_simp)).mono ?_; rintro e wq ⟨rfl, rfl⟩)
      have HRq := Lib.hid (HR.out.alloc (.cells #[.int .i64 (y.lo - x.hi)] 3))
      clear HR x0 x1 x2 x3
      have HR := HRq
      clear HRq
      have x0 := HR.out.cells (List.mem_cons_self ..)
      have x1 := HR.out.cells (List.mem_cons_of_mem _ (List.mem_cons_self ..))
      have x2 := HR.out.cells (List.mem_cons_of_mem _ (List.mem_cons_of_mem _ (List.mem_cons_self ..)))
      have x3 := HR.out.cells (List.mem_cons_of_mem _ (List.mem_cons_of_mem _ (List.mem_cons_of_mem _ (List.mem_cons_self ..))))
      go_wp2_with (go_at_call 151; refine (HD.out _).mono ?_; rintro e wa ⟨rfl, hba⟩; have HRq := Lib.hid (Frm.below (w := w) (bs := [(P, stBox x), (Q, stBox y), (w.heap.size + 1, (.cells #[.int .i64 i, .int .i64 k] 128)), (w.heap.size, (.cells #[.int .i64 m.wd, .int .i64 m.rw, .int .i64 m.sl, (.slice (some ⟨b, off, none⟩) cs.length c), .int .i64 m.wd, .int .i64 m.rw] 87))]) (by (repeat (with_reducible first | exact HR.out | apply Frm.drew | apply Frm.alloc | apply Frm.drewN))) hba); clear HR; have HR := HRq; clear HRq hba)
      go_ret
      refine ⟨ret_bool ?_, HR.out.b⟩
      first | exact HS.out | (rw [← HS.out]; done) | (rw [← HS.out]; simp [hq]; done) | (rw [← HS.out]; simp; omega)
set_option maxHeartbeats 4000000 in
set_option maxRecDepth 100000 in
theorem rContra_any (m : Mp) (cs : List Sta) (A : Option Addr) (c i k : Nat) (x y : Sta) (w : World) (hs : Sane m cs) (hc : Stas w (.slice A cs.length c) cs) (hx : cs[i]? = some x) (hy : cs[k]? = some y) :
    Calls Tryz.prog 141 #[mpV m (.slice A cs.length c), .int .i64 i, .int .i64 k] w fun e w' => e = .returned (.bool (contB m x y)) ∧ Below w.heap.size w w' := by
  have hsx := hs.all x (List.mem_of_getElem? hx)
  have hsy := hs.all y (List.mem_of_getElem? hy)
  obtain ⟨a0, a1, a2, a3, a4⟩ := hsx
  obtain ⟨b0, b1, b2, b3, b4⟩ := hsy
  have hil : i < cs.length := (List.getElem?_eq_some_iff.1 hx).1
  have hkl : k < cs.length := (List.getElem?_eq_some_iff.1 hy).1
  have hl12 := hs.len
  have ok := hs.ok
  have ar := ok.a2
  have w1 := ok.w1; have w2 := ok.w2; have s0 := ok.s0; have s1 := ok.s1
  have i1 : (0 : Int) ≤ i := by omega
  have i2 : (i : Int) < cs.length := by omega
  have k1 : (0 : Int) ≤ k := by omega
  have k2 : (k : Int) < cs.length := by omega
  obtain ⟨b, off, hA, hcap, hmx, -⟩ := sta_cells hc hx
  unfold maxLen at hmx
  subst hA
  have HC := Lib.hid hc
  have Hx := Lib.hid hx
  have Hy := Lib.hid hy
  have HS := Lib.hid (show decide (m.sl * distI m.wd x.pt y.pt < max (x.lo - y.hi) (y.lo - x.hi)) = contB m x y from rfl)
  obtain ⟨d0, d1, d2, d3⟩ := dist_bd (wd := m.wd) (a := x.pt) (b := y.pt) w1 (by omega) (by omega) (by omega) (by omega)
  have p0 : 0 ≤ m.sl * distI m.wd x.pt y.pt := sl_nonneg s0
  have p1 : m.sl * distI m.wd x.pt y.pt ≤ 1000000 * 2000000 := Int.mul_le_mul (by omega) (by unfold distI; omega) (by unfold distI; omega) (by omega)
  have HR := Lib.hid ((Frm.nil w).add (mpBox m (.slice (some ⟨b, off, none⟩) cs.length c)) rfl)
  have x0 := HR.out.cells (List.mem_cons_self ..)
  clear hc hx hy
  go_enter Tryz.func141, Tryz.ntmps141
  go_upto_region 1 with fail
  go_cut [7, 8] (fun s7 s8 wx => ∃ P Q : Nat, P ≠ Q ∧ s7 = .pointer (some ⟨P, 0, none⟩) ∧ s8 = .pointer (some ⟨Q, 0, none⟩) ∧ Frm w [(P, stBox x), (Q, stBox y), (w.heap.size, (mpBox m (.slice (some ⟨b, off, none⟩) cs.length c)))] wx)
  case first =>
    go_region_held3 (fun w' => (∀ o, w'.cell? ⟨w.heap.size, o, none⟩ = #[Value.int .i64 m.wd, .int .i64 m.rw, .int .i64 m.sl, (.slice (some ⟨b, off, none⟩) cs.length c)][o]?) ∧ w'.cell? ⟨b, off + i * 3, none⟩ = some (.int .i64 x.pt) ∧ w'.cell? ⟨b, off + i * 3 + 1, none⟩ = some (.int .i64 x.lo) ∧ w'.cell? ⟨b, off + i * 3 + 2, none⟩ = some (.int .i64 x.hi) ∧ w'.cell? ⟨b, off + k * 3, none⟩ = some (.int .i64 y.pt) ∧ w'.cell? ⟨b, off + k * 3 + 1, none⟩ = some (.int .i64 y.lo) ∧ w'.cell? ⟨b, off + k * 3 + 2, none⟩ = some (.int .i64 y.hi)) ((exact (fun hF : Frm w [(w.heap.size, (mpBox m (.slice (some ⟨b, off, none⟩) cs.length c)))] _ => ⟨hF.cells (List.mem_cons_self ..), (sta_at HC.out hF.b Hx.out).1, (sta_at HC.out hF.b Hx.out).2.1, (sta_at HC.out hF.b Hx.out).2.2, (sta_at HC.out hF.b Hy.out).1, (sta_at HC.out hF.b Hy.out).2.1, (sta_at HC.out hF.b Hy.out).2.2⟩) (by (repeat (with_reducible first | exact HR.out | apply Frm.drew | apply Frm.alloc | apply Frm.drewN))))) (fail)
    all_goals
      go_wp2_with fail
      go_meet
      refine ⟨_, _, ?_, rfl, rfl, ⟨?_, fun p hp => ?_⟩⟩
      · simp
      · exact (Frm.b (w := w) (bs := [(w.heap.size, (mpBox m (.slice (some ⟨b, off, none⟩) cs.length c)))]) (by (repeat (with_reducible first | exact HR.out | apply Frm.drew | apply Frm.alloc | apply Frm.drewN))))
      · simp only [List.mem_cons, List.not_mem_nil, or_false] at hp
        rcases hp with rfl | rfl | rfl
        · (repeat (with_reducible first | exact heap_new _ _ (by simp) | apply blk_alloc | apply blk_dr))
        · (repeat (with_reducible first | exact heap_new _ _ (by simp) | apply blk_alloc | apply blk_dr))
        all_goals exact (Frm.h (w := w) (bs := [(w.heap.size, (mpBox m (.slice (some ⟨b, off, none⟩) cs.length c)))]) (by (repeat (with_reducible first | exact HR.out | apply Frm.drew | apply Frm.alloc | apply Frm.drewN)))) _ (by simp)
  case rest =>
    obtain ⟨P, Q, hPQ, rfl, rfl, hF⟩ := hcut
    clear HR x0
    have HR := Lib.hid hF
    clear hF
    have x0 := HR.out.cells (List.mem_cons_self ..)
    have x1 := HR.out.cells (List.mem_cons_of_mem _ (List.mem_cons_self ..))
    have x2 := HR.out.cells (List.mem_cons_of_mem _ (List.mem_cons_of_mem _ (List.mem_cons_self ..)))
    have HD := Lib.hid (fun W => rDistance_any m.wd x.pt y.pt W w1 (by omega) (by omega) (by omega) (by omega) (by omega))
    have e1 : IntKind.i64.wrap (x.lo - y.hi) = x.lo - y.hi := IntWalk.i64_in _ (by omega)
    have e2 : IntKind.i64.wrap (y.lo - x.hi) = y.lo - x.hi := IntWalk.i64_in _ (by omega)
    have e3 : IntKind.i64.wrap (m.sl * distI m.wd x.pt y.pt) = m.sl * distI m.wd x.pt y.pt := IntWalk.i64_in _ (by omega)
    clear d0 d1 d2 d3
    generalize distI m.wd x.pt y.pt = q at *
    rcases Int.lt_or_le (x.lo - y.hi) (y.lo - x.hi) with hmm | hmm
    · by_cases hq : m.sl * q < y.lo - x.hi
      all_goals
        go_wp2_with fail
        go_region_held3 (fun w' => (∀ o, w'.cell? ⟨P, o, none⟩ = #[Value.int .i64 x.pt, .int .i64 x.lo, .int .i64 x.hi][o]?) ∧ (∀ o, w'.cell? ⟨Q, o, none⟩ = #[Value.int .i64 y.pt, .int .i64 y.lo, .int .i64 y.hi][o]?) ∧ (∀ o, w'.cell? ⟨w.heap.size, o, none⟩ = #[Value.int .i64 m.wd, .int .i64 m.rw, .int .i64 m.sl, (.slice (some ⟨b, off, none⟩) cs.length c)][o]?)) ((exact (fun hF : Frm w [(P, stBox x), (Q, stBox y), (w.heap.size, (mpBox m (.slice (some ⟨b, off, none⟩) cs.length c)))] _ => ⟨hF.cells (List.mem_cons_self ..), hF.cells (List.mem_cons_of_mem _ (List.mem_cons_self ..)), hF.cells (List.mem_cons_of_mem _ (List.mem_cons_of_mem _ (List.mem_cons_self ..)))⟩) (by (repeat (with_reducible first | exact HR.out | apply Frm.drew | apply Frm.alloc | apply Frm.drewN))))) ((go_at_call 65; refine (HD.out _).mono ?_; rintro e wa ⟨rfl, hba⟩; have HRq := Lib.hid (Frm.below (w := w) (bs := [(P, stBox x), (Q, stBox y), (w.heap.size, (mpBox m (.slice (some ⟨b, off, none⟩) cs.length c)))]) (by (repeat (with_reducible first | exact HR.out | apply Frm.drew | apply Frm.alloc | apply Frm.drewN))) hba); clear HR; have HR := HRq; clear HRq hba))
        all_goals
          go_wp2_with fail
          go_ret
          exact ⟨ret_bool (by rw [← HS.out]; simp; omega), HR.out.b⟩
    · by_cases hq : m.sl * q < x.lo - y.hi
      all_goals
        go_wp2_with fail
        go_region_held3 (fun w' => (∀ o, w'.cell? ⟨P, o, none⟩ = #[Value.int .i64 x.pt, .int .i64 x.lo, .int .i64 x.hi][o]?) ∧ (∀ o, w'.cell? ⟨Q, o, none⟩ = #[Value.int .i64 y.pt, .int .i64 y.lo, .int .i64 y.hi][o]?) ∧ (∀ o, w'.cell? ⟨w.heap.size, o, none⟩ = #[Value.int .i64 m.wd, .int .i64 m.rw, .int .i64 m.sl, (.slice (some ⟨b, off, none⟩) cs.length c)][o]?)) ((exact (fun hF : Frm w [(P, stBox x), (Q, stBox y), (w.heap.size, (mpBox m (.slice (some ⟨b, off, none⟩) cs.length c)))] _ => ⟨hF.cells (List.mem_cons_self ..), hF.cells (List.mem_cons_of_mem _ (List.mem_cons_self ..)), hF.cells (List.mem_cons_of_mem _ (List.mem_cons_of_mem _ (List.mem_cons_self ..)))⟩) (by (repeat (with_reducible first | exact HR.out | apply Frm.drew | apply Frm.alloc | apply Frm.drewN))))) ((go_at_call 65; refine (HD.out _).mono ?_; rintro e wa ⟨rfl, hba⟩; have HRq := Lib.hid (Frm.below (w := w) (bs := [(P, stBox x), (Q, stBox y), (w.heap.size, (mpBox m (.slice (some ⟨b, off, none⟩) cs.length c)))]) (by (repeat (with_reducible first | exact HR.out | apply Frm.drew | apply Frm.alloc | apply Frm.drewN))) hba); clear HR; have HR := HRq; clear HRq hba))
        all_goals
          go_wp2_with fail
          go_ret
          exact ⟨ret_bool (by rw [← HS.out]; simp; omega), HR.out.b⟩
end Go.Proofs.YtpkmojcppdogkaaGreatDoor
