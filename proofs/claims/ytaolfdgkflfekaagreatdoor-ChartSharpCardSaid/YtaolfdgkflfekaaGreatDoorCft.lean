/- The program's fits. -/
import Derived.Test.YtaolfdgkflfekaaGreatDoorCfj
set_option linter.unusedVariables false
set_option linter.unusedSimpArgs false
namespace Go.Proofs.YtaolfdgkflfekaaGreatDoor
open Go.RowKit
open Go.Maps Go.Shelf
attribute [local go_sem] Oper.semAt_some
set_option maxHeartbeats 4000000 in
set_option maxRecDepth 100000 in
theorem fits_any (m : Mp) (A : Option Addr) (c : Nat) (cs : List Sta) (wd : Int) (Z : Option Addr) (zc : Nat) (zs : List Int) (w : World) (hs : Sane m cs) (hfb : fieldB wd zs = true) (hc : Stas w (.slice A cs.length c) cs) (hz : Ints w (.slice Z zs.length zc) zs) :
    Calls Tryz.prog 38 #[viewV m.wd m.rw m.sl (.slice A cs.length c), .agg #[.int .i64 wd, .slice Z zs.length zc]] w fun e w' => e = .returned (.bool (fitsB m cs wd zs)) ∧ Below w.heap.size w w' := by
  obtain ⟨hv, hw1, hw2, hl1, hl2⟩ := fieldB_all hfb
  obtain ⟨zb, zo, rfl, hzc1, hzc2⟩ := hz.at0 (by omega)
  unfold maxLen at hzc2
  have HC0 := Lib.hid hc
  have HZ := Lib.hid hz
  have HVV := Lib.hid hv
  have ok := hs.ok
  have w1 := ok.w1; have w2 := ok.w2; have s0 := ok.s0; have s1 := ok.s1; have a1 := ok.a1; have a2 := ok.a2
  have hl12 := hs.len
  have hlen := hs.len
  obtain ⟨N, hN⟩ : ∃ N : Nat, (m.wd * m.rw).toNat = N := ⟨_, rfl⟩
  have hN' : m.wd * m.rw = (N : Int) := by omega
  have e1 : IntKind.i64.wrap (m.wd * m.rw) = (N : Int) := by rw [hN']; exact IntWalk.i64_in _ (by omega)
  have HP : Hid (∀ W, Calls Tryz.prog 67 #[.agg #[.int .i64 m.wd, .int .i64 m.rw]] W fun e w' => e = .returned (.int .i64 (N : Int)) ∧ Below W.heap.size W w') := Lib.hid (fun W => by
    go_enter Tryz.func67, Tryz.ntmps67
    go_wp2
    go_ret
    exact ⟨ret_int (by omega), (Below.refl _ _).alloc (Nat.le_refl _) _⟩)
  have hN30 : N ≤ 100 := by omega
  have HNN := Lib.hid hN'
  clear hc hz hv hfb e1 hN hN'
  have HR := Lib.hid ((((Frm.nil w).add (.cells #[.int .i64 m.wd, .int .i64 m.rw, .int .i64 m.sl, (.slice A cs.length c), .int .i64 m.wd, .int .i64 m.rw] 75) rfl).add (k := w.heap.size + 1) (.cells #[.int .i64 wd, .slice (some ⟨zb, zo, none⟩) zs.length zc] 27) (by simp)).add (k := w.heap.size + 1 + 1) (.cells #[.bool false] 4) (by simp))
  have x0 := HR.out.cells (List.mem_cons_self ..)
  have x1 := HR.out.cells (List.mem_cons_of_mem _ (List.mem_cons_self ..))
  have x2 := HR.out.cells (List.mem_cons_of_mem _ (List.mem_cons_of_mem _ (List.mem_cons_self ..)))
  have f0 := HR.out.free (List.mem_cons_self ..)
  have l0 := HR.out.lt (List.mem_cons_self ..)
  refine (callsIn_wide (n := 10)).1 ?_
  refine callsIn_of_wp_marks Tryz.func38 rfl trivial ?_ rfl
  simp only [Tryz.ntmps38, List.size_toArray, List.length_cons, List.length_nil, Nat.reduceAdd, Nat.reduceSub, Array.replicate_succ, Array.replicate_zero, List.push_toArray, List.append_toArray, List.nil_append, List.cons_append]
  refine wpIn_wide.2 ?_
  by_cases g1 : wd = m.wd
  rotate_left
  · have HN := Lib.hid (show false = fitsB m cs wd zs from (fitsB_no (cs := cs) fun h => g1 h.wide).symm)
    have g1b : (wd != m.wd) = true := by simp [g1]
    go_upto_region 1 with fail
    refine wp_region_noPanic ?_
    refine wp_region_held_drew (S := fun w' => (∀ o, w'.cell? ⟨w.heap.size + 1, o, none⟩ = #[Value.int .i64 wd, .slice (some ⟨zb, zo, none⟩) zs.length zc][o]?) ∧ (∀ o, w'.cell? ⟨w.heap.size, o, none⟩ = #[Value.int .i64 m.wd, .int .i64 m.rw, .int .i64 m.sl, (.slice A cs.length c), .int .i64 m.wd, .int .i64 m.rw][o]?)) (by kernel_rfl) ?_ (fun hHeld => ?_)
    · (try dsimp only); (exact (fun hF : Frm w [(w.heap.size + 1 + 1, (.cells #[.bool false] 4)), (w.heap.size + 1, (.cells #[.int .i64 wd, .slice (some ⟨zb, zo, none⟩) zs.length zc] 27)), (w.heap.size, (.cells #[.int .i64 m.wd, .int .i64 m.rw, .int .i64 m.sl, (.slice A cs.length c), .int .i64 m.wd, .int .i64 m.rw] 75))] _ => ⟨hF.cells (List.mem_cons_of_mem _ (List.mem_cons_self ..)), hF.cells (List.mem_cons_of_mem _ (List.mem_cons_of_mem _ (List.mem_cons_self ..)))⟩) (by (repeat (with_reducible first | exact HR.out | apply Frm.drew | apply Frm.alloc | apply Frm.drewN))))
    refine wpAnyH_take (i := 0) (oi := ⟨some 9, _, _, _, _, _⟩) (v := ?v0) rfl (by kernel_rfl) (by kernel_rfl) (by kernel_rfl) (fun _ _ _ h => h) (Or.inl ⟨by kernel_rfl, ?hy0⟩) (by assumption) ?rest0
    case hy0 => (intro w hSw; (try dsimp only at hSw); go_simp) <;> (with_reducible rfl)
    try simp only [Act.put, List.setIfInBounds_toArray, List.set_cons_zero, List.set_cons_succ]
    refine wpAnyH_take (i := 1) (oi := ⟨some 10, _, _, _, _, _⟩) (v := ?v1) rfl (by kernel_rfl) (by kernel_rfl) (by kernel_rfl) (fun _ _ _ h => h) (Or.inl ⟨by kernel_rfl, ?hy1⟩) (by assumption) ?rest1
    case hy1 => (intro w hSw; (try dsimp only at hSw); go_simp) <;> (with_reducible rfl)
    try simp only [Act.put, List.setIfInBounds_toArray, List.set_cons_zero, List.set_cons_succ]
    refine wpAnyH_take (i := 2) (oi := ⟨some 11, _, _, _, _, _⟩) (v := ?v2) rfl (by kernel_rfl) (by kernel_rfl) (by kernel_rfl) (fun _ _ _ h => h) (Or.inl ⟨by kernel_rfl, ?hy2⟩) (by assumption) ?rest2
    case hy2 => (intro w hSw; (try dsimp only at hSw); go_simp) <;> (with_reducible rfl)
    try simp only [Act.put, List.setIfInBounds_toArray, List.set_cons_zero, List.set_cons_succ]
    refine wpAnyH_take (i := 3) (oi := ⟨some 12, _, _, _, _, _⟩) (v := ?v3) rfl (by kernel_rfl) (by kernel_rfl) (by kernel_rfl) (fun _ _ _ h => h) (Or.inl ⟨by kernel_rfl, ?hy3⟩) (by assumption) ?rest3
    case hy3 => (intro w hSw; (try dsimp only at hSw); go_simp) <;> (with_reducible rfl)
    try simp only [Act.put, List.setIfInBounds_toArray, List.set_cons_zero, List.set_cons_succ]
    refine wpAnyH_take (i := 4) (oi := ⟨some 13, _, _, _, _, _⟩) (v := ?v4) rfl (by kernel_rfl) (by kernel_rfl) (by kernel_rfl) (fun _ _ _ h => h) (Or.inl ⟨by kernel_rfl, ?hy4⟩) (by assumption) ?rest4
    case hy4 => (intro w hSw; (try dsimp only at hSw); go_simp) <;> (with_reducible rfl)
    try simp only [Act.put, List.setIfInBounds_toArray, List.set_cons_zero, List.set_cons_succ]
    refine wpAnyH_take (i := 5) (oi := ⟨some 14, _, _, _, _, _⟩) (v := ?v5) rfl (by kernel_rfl) (by kernel_rfl) (by kernel_rfl) (fun _ _ _ h => h) (Or.inl ⟨by kernel_rfl, ?hy5⟩) (by assumption) ?rest5
    case hy5 => (intro w hSw; (try dsimp only at hSw); go_simp) <;> (with_reducible rfl)
    try simp only [Act.put, List.setIfInBounds_toArray, List.set_cons_zero, List.set_cons_succ]
    refine wpAnyH_take (i := 6) (oi := ⟨some 15, _, _, _, _, _⟩) (v := ?v6) rfl (by kernel_rfl) (by kernel_rfl) (by kernel_rfl) (fun _ _ _ h => h) (Or.inl ⟨by kernel_rfl, ?hy6⟩) (by assumption) ?rest6
    case hy6 => (intro w hSw; (try dsimp only at hSw); go_simp) <;> (with_reducible rfl)
    try simp only [Act.put, List.setIfInBounds_toArray, List.set_cons_zero, List.set_cons_succ]
    refine wpAnyH_take (i := 7) (oi := ⟨some 16, _, _, _, _, _⟩) (v := undef) rfl (by kernel_rfl) (by kernel_rfl) (by kernel_rfl) (fun _ _ _ h => h) (Or.inr ⟨by kernel_rfl, rfl⟩) (by assumption) ?_
    try simp only [Act.put, List.setIfInBounds_toArray, List.set_cons_zero, List.set_cons_succ]
    refine wpAnyH_take (i := 8) (oi := ⟨some 17, _, _, _, _, _⟩) (v := undef) rfl (by kernel_rfl) (by kernel_rfl) (by kernel_rfl) (fun _ _ _ h => h) (Or.inr ⟨by kernel_rfl, rfl⟩) (by assumption) ?_
    try simp only [Act.put, List.setIfInBounds_toArray, List.set_cons_zero, List.set_cons_succ]
    refine wpAnyH_take (i := 9) (oi := ⟨some 18, _, _, _, _, _⟩) (v := undef) rfl (by kernel_rfl) (by kernel_rfl) (by kernel_rfl) (fun _ _ _ h => h) (Or.inr ⟨by kernel_rfl, rfl⟩) (by assumption) ?_
    try simp only [Act.put, List.setIfInBounds_toArray, List.set_cons_zero, List.set_cons_succ]
    refine wpAnyH_take (i := 10) (oi := ⟨some 19, _, _, _, _, _⟩) (v := undef) rfl (by kernel_rfl) (by kernel_rfl) (by kernel_rfl) (fun _ _ _ h => h) (Or.inr ⟨by kernel_rfl, rfl⟩) (by assumption) ?_
    try simp only [Act.put, List.setIfInBounds_toArray, List.set_cons_zero, List.set_cons_succ]
    refine wpAnyH_take (i := 11) (oi := ⟨some 20, _, _, _, _, _⟩) (v := undef) rfl (by kernel_rfl) (by kernel_rfl) (by kernel_rfl) (fun _ _ _ h => h) (Or.inr ⟨by kernel_rfl, rfl⟩) (by assumption) ?_
    try simp only [Act.put, List.setIfInBounds_toArray, List.set_cons_zero, List.set_cons_succ]
    refine wpAnyH_take (i := 12) (oi := ⟨some 21, _, _, _, _, _⟩) (v := undef) rfl (by kernel_rfl) (by kernel_rfl) (by kernel_rfl) (fun _ _ _ h => h) (Or.inr ⟨by kernel_rfl, rfl⟩) (by assumption) ?_
    try simp only [Act.put, List.setIfInBounds_toArray, List.set_cons_zero, List.set_cons_succ]
    refine wpAnyH_take (i := 13) (oi := ⟨some 22, _, _, _, _, _⟩) (v := undef) rfl (by kernel_rfl) (by kernel_rfl) (by kernel_rfl) (fun _ _ _ h => h) (Or.inr ⟨by kernel_rfl, rfl⟩) (by assumption) ?_
    try simp only [Act.put, List.setIfInBounds_toArray, List.set_cons_zero, List.set_cons_succ]
    refine wpAnyH_take (i := 14) (oi := ⟨some 23, _, _, _, _, _⟩) (v := ?v14) rfl (by kernel_rfl) (by kernel_rfl) (by kernel_rfl) (fun _ _ _ h => h) (Or.inl ⟨by kernel_rfl, ?hy14⟩) (by assumption) ?rest14
    case hy14 => (intro w hSw; (try dsimp only at hSw); go_simp) <;> (with_reducible rfl)
    try simp only [Act.put, List.setIfInBounds_toArray, List.set_cons_zero, List.set_cons_succ]
    refine wpAnyH_done (by kernel_rfl) ?_ _
    refine NoPanic.normal ?_
    go_wp2_with fail
    have u0 := HR.out.cells (List.mem_cons_self ..)
    refine ⟨.bool false, by simp [results, Tryz.results38, go_sem, u0], ret_bool HN.out, ?_⟩
    first | exact HR.out.b | exact HR.out.drew.b | exact (Frm.put HR.out (by omega) (by simp <;> omega) 0 (.bool false)).b
  subst g1
  by_cases g2 : (zs.length : Int) = (N : Int)
  rotate_left
  · go_upto_region 1 with fail
    go_region_held3 (fun w' => (∀ o, w'.cell? ⟨w.heap.size + 1, o, none⟩ = #[Value.int .i64 m.wd, .slice (some ⟨zb, zo, none⟩) zs.length zc][o]?) ∧ (∀ o, w'.cell? ⟨w.heap.size, o, none⟩ = #[Value.int .i64 m.wd, .int .i64 m.rw, .int .i64 m.sl, (.slice A cs.length c), .int .i64 m.wd, .int .i64 m.rw][o]?)) ((exact (fun hF : Frm w [(w.heap.size + 1 + 1, (.cells #[.bool false] 4)), (w.heap.size + 1, (.cells #[.int .i64 m.wd, .slice (some ⟨zb, zo, none⟩) zs.length zc] 27)), (w.heap.size, (.cells #[.int .i64 m.wd, .int .i64 m.rw, .int .i64 m.sl, (.slice A cs.length c), .int .i64 m.wd, .int .i64 m.rw] 75))] _ => ⟨hF.cells (List.mem_cons_of_mem _ (List.mem_cons_self ..)), hF.cells (List.mem_cons_of_mem _ (List.mem_cons_of_mem _ (List.mem_cons_self ..)))⟩) (by (repeat (with_reducible first | exact HR.out | apply Frm.drew | apply Frm.alloc | apply Frm.drewN))))) ((go_at_call 67; refine (HP.out _).mono ?_; rintro e wa ⟨rfl, hba⟩; have HRq := Lib.hid (Frm.below (w := w) (bs := [(w.heap.size + 1 + 1, (.cells #[.bool false] 4)), (w.heap.size + 1, (.cells #[.int .i64 m.wd, .slice (some ⟨zb, zo, none⟩) zs.length zc] 27)), (w.heap.size, (.cells #[.int .i64 m.wd, .int .i64 m.rw, .int .i64 m.sl, (.slice A cs.length c), .int .i64 m.wd, .int .i64 m.rw] 75))]) (by (repeat (with_reducible first | exact HR.out | apply Frm.drew | apply Frm.alloc | apply Frm.drewN))) hba); clear HR; have HR := HRq; clear HRq hba; have x0 := HR.out.cells (List.mem_cons_self ..); have x1 := HR.out.cells (List.mem_cons_of_mem _ (List.mem_cons_self ..)); have x2 := HR.out.cells (List.mem_cons_of_mem _ (List.mem_cons_of_mem _ (List.mem_cons_self ..)))))
    all_goals
      have f0 := HR.out.free (List.mem_cons_self ..)
      have l0 := HR.out.lt (List.mem_cons_self ..)
      have x0 := HR.out.cells (List.mem_cons_self ..)
      have HN := Lib.hid (show false = fitsB m cs m.wd zs from (fitsB_no (cs := cs) fun h => g2 (h.size.trans HNN.out)).symm)
      go_wp2_with fail
      have hF := Frm.put HR.out (by omega) (by simp <;> omega) 0 (.bool false)
      have u0 := hF.cells (List.mem_cons_self ..)
      exact ⟨.bool false, by simp [results, Tryz.results38, go_sem, u0], ret_bool HN.out, hF.b⟩
  have HG2 := Lib.hid g2
  have g3 : ((zs.length : Int) != (N : Int)) = false := by simp; omega
  clear g2
  go_upto_region 1 with fail
  go_region_held3 (fun w' => (∀ o, w'.cell? ⟨w.heap.size + 1, o, none⟩ = #[Value.int .i64 m.wd, .slice (some ⟨zb, zo, none⟩) zs.length zc][o]?) ∧ (∀ o, w'.cell? ⟨w.heap.size, o, none⟩ = #[Value.int .i64 m.wd, .int .i64 m.rw, .int .i64 m.sl, (.slice A cs.length c), .int .i64 m.wd, .int .i64 m.rw][o]?)) ((exact (fun hF : Frm w [(w.heap.size + 1 + 1, (.cells #[.bool false] 4)), (w.heap.size + 1, (.cells #[.int .i64 m.wd, .slice (some ⟨zb, zo, none⟩) zs.length zc] 27)), (w.heap.size, (.cells #[.int .i64 m.wd, .int .i64 m.rw, .int .i64 m.sl, (.slice A cs.length c), .int .i64 m.wd, .int .i64 m.rw] 75))] _ => ⟨hF.cells (List.mem_cons_of_mem _ (List.mem_cons_self ..)), hF.cells (List.mem_cons_of_mem _ (List.mem_cons_of_mem _ (List.mem_cons_self ..)))⟩) (by (repeat (with_reducible first | exact HR.out | apply Frm.drew | apply Frm.alloc | apply Frm.drewN))))) ((go_at_call 67; refine (HP.out _).mono ?_; rintro e wa ⟨rfl, hba⟩; have HRq := Lib.hid (Frm.below (w := w) (bs := [(w.heap.size + 1 + 1, (.cells #[.bool false] 4)), (w.heap.size + 1, (.cells #[.int .i64 m.wd, .slice (some ⟨zb, zo, none⟩) zs.length zc] 27)), (w.heap.size, (.cells #[.int .i64 m.wd, .int .i64 m.rw, .int .i64 m.sl, (.slice A cs.length c), .int .i64 m.wd, .int .i64 m.rw] 75))]) (by (repeat (with_reducible first | exact HR.out | apply Frm.drew | apply Frm.alloc | apply Frm.drewN))) hba); clear HR; have HR := HRq; clear HRq hba; have x0 := HR.out.cells (List.mem_cons_self ..); have x1 := HR.out.cells (List.mem_cons_of_mem _ (List.mem_cons_self ..)); have x2 := HR.out.cells (List.mem_cons_of_mem _ (List.mem_cons_of_mem _ (List.mem_cons_self ..)))))
  all_goals
    clear g3
    have x0 := HR.out.cells (List.mem_cons_self ..)
    have x1 := HR.out.cells (List.mem_cons_of_mem _ (List.mem_cons_self ..))
    have x2 := HR.out.cells (List.mem_cons_of_mem _ (List.mem_cons_of_mem _ (List.mem_cons_self ..)))
    have f0 := HR.out.free (List.mem_cons_self ..)
    have l0 := HR.out.lt (List.mem_cons_self ..)
    go_wp2_with fail
    go_loopw [6, 28] (fun _ i wr => ∃ n : Nat, n ≤ cs.length ∧ i = .int .i64 n ∧ (∀ x ∈ cs.take n, x.lo ≤ ev zs x.pt.toNat ∧ ev zs x.pt.toNat ≤ x.hi) ∧ Frm w [(w.heap.size + 1 + 1, (.cells #[.bool false] 4)), (w.heap.size + 1, (.cells #[.int .i64 m.wd, .slice (some ⟨zb, zo, none⟩) zs.length zc] 27)), (w.heap.size, (.cells #[.int .i64 m.wd, .int .i64 m.rw, .int .i64 m.sl, (.slice A cs.length c), .int .i64 m.wd, .int .i64 m.rw] 75))] wr) (fun _ i _ => cs.length - (intOf i).toNat)
    case atStart => exact ⟨0, Nat.zero_le _, rfl, by simp, (by (repeat (with_reducible first | exact HR.out | apply Frm.drew | apply Frm.alloc | apply Frm.drewN)))⟩
    case round =>
      obtain ⟨n, hn, rfl, hall, hF⟩ := hrel
      clear HR x0 x1 x2 f0 l0
      have HA := Lib.hid hall
      have HR := Lib.hid hF
      have x0 := HR.out.cells (List.mem_cons_self ..)
      have x1 := HR.out.cells (List.mem_cons_of_mem _ (List.mem_cons_self ..))
      have x2 := HR.out.cells (List.mem_cons_of_mem _ (List.mem_cons_of_mem _ (List.mem_cons_self ..)))
      have f0 := HR.out.free (List.mem_cons_self ..)
      have l0 := HR.out.lt (List.mem_cons_self ..)
      clear hall hF
      by_cases hnl : n < cs.length
      · obtain ⟨x, hx⟩ : ∃ x, cs[n]? = some x := ⟨_, List.getElem?_eq_getElem hnl⟩
        obtain ⟨b, off, hA, hcap, hmx, c0, c1, c2⟩ := sta_cells (HC0.out.below HR.out.b) hx
        unfold maxLen at hmx
        have hxo := hs.all x (List.mem_of_getElem? hx)
        obtain ⟨o0, o1, o2, o3, o4⟩ := hxo
        obtain ⟨xp, xl, xh⟩ := x
        dsimp only at c0 c1 c2 o0 o1 o2 o3 o4
        obtain ⟨pt, rfl⟩ : ∃ pt : Nat, xp = pt := ⟨xp.toNat, by omega⟩
        have hptl : pt < zs.length := by have := HG2.out; have := HNN.out; omega
        have HX := Lib.hid hx
        clear hx o0 o1
        subst hA
        have HIN := Lib.hid (fun W => between_any (ev zs pt) xl xh W)
        go_upto_region 6 with fail
        have HR0 := HR
        have HRq := Lib.hid (HR.out.add (.cells #[.int .i64 pt, .int .i64 xl, .int .i64 xh] 57) rfl)
        clear HR x0 x1 x2 c0 c1 c2 f0
        have HR := HRq
        clear HRq
        cases q : betw (ev zs pt) xl xh
        · have HQ := Lib.hid (show false = fitsB m cs m.wd zs from (fitsB_no fun hf => by
            have h1 := hf.own _ (List.mem_of_getElem? HX.out)
            have h2 := betw_not.1 q
            exact h2 (by simpa using h1)).symm)
          rw [q] at HIN
          go_region_held3 (fun w' => (∀ o, w'.cell? ⟨wr.heap.size, o, none⟩ = #[Value.int .i64 pt, .int .i64 xl, .int .i64 xh][o]?) ∧ (∀ o, w'.cell? ⟨w.heap.size + 1, o, none⟩ = #[Value.int .i64 m.wd, .slice (some ⟨zb, zo, none⟩) zs.length zc][o]?) ∧ w'.cell? ⟨zb, zo + pt, none⟩ = some (.int .i64 (ev zs pt))) ((exact (fun hF : Frm w [(wr.heap.size, (.cells #[.int .i64 pt, .int .i64 xl, .int .i64 xh] 57)), (w.heap.size + 1 + 1, (.cells #[.bool false] 4)), (w.heap.size + 1, (.cells #[.int .i64 m.wd, .slice (some ⟨zb, zo, none⟩) zs.length zc] 27)), (w.heap.size, (.cells #[.int .i64 m.wd, .int .i64 m.rw, .int .i64 m.sl, (.slice (some ⟨b, off, none⟩) cs.length c), .int .i64 m.wd, .int .i64 m.rw] 75))] _ => ⟨hF.cells (List.mem_cons_self ..), hF.cells (List.mem_cons_of_mem _ (List.mem_cons_of_mem _ (List.mem_cons_self ..))), int_at HZ.out hF.b (ev_is hptl)⟩) (by (repeat (with_reducible first | exact HR.out | apply Frm.drew | apply Frm.alloc | apply Frm.drewN))))) ((go_at_call 64; refine (HIN.out _).mono ?_; rintro e wq ⟨rfl, rfl⟩))
          all_goals
            have x1 := HR.out.cells (List.mem_cons_of_mem _ (List.mem_cons_self ..))
            have f1 := HR.out.free (List.mem_cons_of_mem _ (List.mem_cons_self ..))
            have l1 := HR.out.lt (List.mem_cons_of_mem _ (List.mem_cons_self ..))
            go_wp2_with fail
            have hF := ((Frm.put HR0.out (by omega) (by simp <;> omega) 0 (.bool false)).alloc (.cells #[.int .i64 pt, .int .i64 xl, .int .i64 xh] 57)).drew
            have u0 := hF.cells (List.mem_cons_self ..)
            exact ⟨.bool false, by simp [results, Tryz.results38, go_sem, u0], ret_bool HQ.out, hF.b⟩
        · have HQ := Lib.hid (betw_iff.1 q)
          rw [q] at HIN
          go_region_held3 (fun w' => (∀ o, w'.cell? ⟨wr.heap.size, o, none⟩ = #[Value.int .i64 pt, .int .i64 xl, .int .i64 xh][o]?) ∧ (∀ o, w'.cell? ⟨w.heap.size + 1, o, none⟩ = #[Value.int .i64 m.wd, .slice (some ⟨zb, zo, none⟩) zs.length zc][o]?) ∧ w'.cell? ⟨zb, zo + pt, none⟩ = some (.int .i64 (ev zs pt))) ((exact (fun hF : Frm w [(wr.heap.size, (.cells #[.int .i64 pt, .int .i64 xl, .int .i64 xh] 57)), (w.heap.size + 1 + 1, (.cells #[.bool false] 4)), (w.heap.size + 1, (.cells #[.int .i64 m.wd, .slice (some ⟨zb, zo, none⟩) zs.length zc] 27)), (w.heap.size, (.cells #[.int .i64 m.wd, .int .i64 m.rw, .int .i64 m.sl, (.slice (some ⟨b, off, none⟩) cs.length c), .int .i64 m.wd, .int .i64 m.rw] 75))] _ => ⟨hF.cells (List.mem_cons_self ..), hF.cells (List.mem_cons_of_mem _ (List.mem_cons_of_mem _ (List.mem_cons_self ..))), int_at HZ.out hF.b (ev_is hptl)⟩) (by (repeat (with_reducible first | exact HR.out | apply Frm.drew | apply Frm.alloc | apply Frm.drewN))))) ((go_at_call 64; refine (HIN.out _).mono ?_; rintro e wq ⟨rfl, rfl⟩))
          all_goals
            go_wp2_with fail
            go_roundw
            case rel => exact ⟨n + 1, by omega, by go_num, fun z hz => by
              rw [List.take_add_one, HX.out] at hz
              rcases List.mem_append.1 hz with h1 | h1
              · exact HA.out z h1
              · obtain rfl := (by simpa using h1 : z = _)
                simpa using HQ.out, Frm.less (bs := [(wr.heap.size, (.cells #[.int .i64 pt, .int .i64 xl, .int .i64 xh] 57)), (w.heap.size + 1 + 1, (.cells #[.bool false] 4)), (w.heap.size + 1, (.cells #[.int .i64 m.wd, .slice (some ⟨zb, zo, none⟩) zs.length zc] 27)), (w.heap.size, (.cells #[.int .i64 m.wd, .int .i64 m.rw, .int .i64 m.sl, (.slice (some ⟨b, off, none⟩) cs.length c), .int .i64 m.wd, .int .i64 m.rw] 75))]) (by (repeat (with_reducible first | exact HR.out | apply Frm.drew | apply Frm.alloc | apply Frm.drewN))) (fun p hp => List.mem_cons_of_mem _ hp)⟩
            case measure => simp [intOf]; omega
      · obtain rfl : n = cs.length := by omega
        have HOWN := Lib.hid (show ∀ x ∈ cs, x.lo ≤ ev zs x.pt.toNat ∧ ev zs x.pt.toNat ≤ x.hi by have := HA.out; rwa [List.take_length] at this)
        go_wp2_with (go_at_call 67; refine (HP.out _).mono ?_; rintro e wa ⟨rfl, hba⟩; have HRq := Lib.hid (Frm.below (w := w) (bs := [(w.heap.size + 1 + 1, (.cells #[.bool false] 4)), (w.heap.size + 1, (.cells #[.int .i64 m.wd, .slice (some ⟨zb, zo, none⟩) zs.length zc] 27)), (w.heap.size, (.cells #[.int .i64 m.wd, .int .i64 m.rw, .int .i64 m.sl, (.slice A cs.length c), .int .i64 m.wd, .int .i64 m.rw] 75))]) (by (repeat (with_reducible first | exact HR.out | apply Frm.drew | apply Frm.alloc | apply Frm.drewN))) hba); clear HR; have HR := HRq; clear HRq hba; have x0 := HR.out.cells (List.mem_cons_self ..); have x1 := HR.out.cells (List.mem_cons_of_mem _ (List.mem_cons_self ..)); have x2 := HR.out.cells (List.mem_cons_of_mem _ (List.mem_cons_of_mem _ (List.mem_cons_self ..))))
        refine wp_loop_marks [7, 8, 50, 51, 52, 53, 54, 55, 56, 57, 58, 59, 60, 61, 62, 63, 64, 65, 66, 67, 68, 69, 70, 71, 72, 73] (fun u ds W => ∃ n : Nat, n ≤ N ∧ u 50 = .int .i64 n ∧ (∀ p q : Nat, p < n → q < N → distI m.wd p q = 1 → farI (ev zs p) (ev zs q) ≤ m.sl) ∧ Marks W w.heap.size ds ∧ Frm w [(w.heap.size + 1 + 1, (.cells #[.bool false] 4)), (w.heap.size + 1, (.cells #[.int .i64 m.wd, .slice (some ⟨zb, zo, none⟩) zs.length zc] 27)), (w.heap.size, (.cells #[.int .i64 m.wd, .int .i64 m.rw, .int .i64 m.sl, (.slice A cs.length c), .int .i64 m.wd, .int .i64 m.rw] 75))] W) (fun u => N - (intOf (u 50)).toNat) ?hT ⟨0, Nat.zero_le _, rfl, fun _ _ h => absurd h (Nat.not_lt_zero _), Marks.nil _ _, (by (repeat (with_reducible first | exact HR.out | apply Frm.drew | apply Frm.alloc | apply Frm.drewN)))⟩ ?round
        case hT => kernel_rfl
        case round =>
          rintro u ds wr ⟨n, hn, h50, hall, hM, hF⟩ K hK
          clear HR x0 x1 x2 f0 l0
          have HK := Lib.hid hK
          have HA2 := Lib.hid hall
          have HM := Lib.hid hM
          have HR := Lib.hid hF
          have x0 := HR.out.cells (List.mem_cons_self ..)
          have x1 := HR.out.cells (List.mem_cons_of_mem _ (List.mem_cons_self ..))
          have x2 := HR.out.cells (List.mem_cons_of_mem _ (List.mem_cons_of_mem _ (List.mem_cons_self ..)))
          clear hK hall hM hF
          simp only [upd, List.foldl_cons, List.foldl_nil, List.setIfInBounds_toArray, List.set_cons_zero, List.set_cons_succ]
          rw [h50]
          by_cases hnl : n < N
          · have hnl2 : (n : Int) < (N : Int) := by omega
            have l0 := HR.out.lt (List.mem_cons_self ..)
            have l1 := HR.out.lt (List.mem_cons_of_mem _ (List.mem_cons_self ..))
            have l2 := HR.out.lt (List.mem_cons_of_mem _ (List.mem_cons_of_mem _ (List.mem_cons_self ..)))
            go_wp2_with (go_at_call 68; refine (neighbours_any m.wd m.rw n _).mono ?_; rintro e wa ⟨B, D, rfl, hGB, hPB, hba⟩; have HRq := Lib.hid (Frm.below (w := w) (bs := [(wr.heap.size, (.cells #[.int .i64 (n : Int)] 3)), (w.heap.size + 1 + 1, (.cells #[.bool false] 4)), (w.heap.size + 1, (.cells #[.int .i64 m.wd, .slice (some ⟨zb, zo, none⟩) zs.length zc] 27)), (w.heap.size, (.cells #[.int .i64 m.wd, .int .i64 m.rw, .int .i64 m.sl, (.slice A cs.length c), .int .i64 m.wd, .int .i64 m.rw] 75))]) ((Frm.add (w := w) (bs := [(w.heap.size + 1 + 1, (.cells #[.bool false] 4)), (w.heap.size + 1, (.cells #[.int .i64 m.wd, .slice (some ⟨zb, zo, none⟩) zs.length zc] 27)), (w.heap.size, (.cells #[.int .i64 m.wd, .int .i64 m.rw, .int .i64 m.sl, (.slice A cs.length c), .int .i64 m.wd, .int .i64 m.rw] 75))]) HR.out (.cells #[.int .i64 (n : Int)] 3) rfl)) hba); have HGB := Lib.hid hGB; have HPB := Lib.hid hPB; have HBA := Lib.hid hba; clear HR x0 x1 x2 hGB hPB hba; have HR := HRq; clear HRq; have x0 := HR.out.cells (List.mem_cons_self ..); have x1 := HR.out.cells (List.mem_cons_of_mem _ (List.mem_cons_self ..)); have x2 := HR.out.cells (List.mem_cons_of_mem _ (List.mem_cons_of_mem _ (List.mem_cons_self ..))); have x3 := HR.out.cells (List.mem_cons_of_mem _ (List.mem_cons_of_mem _ (List.mem_cons_of_mem _ (List.mem_cons_self ..)))))
            refine (wpIn_wide (n := 2)).1 ?_
            refine wpIn_gen ?_
            intro A0 hA0
            refine wpIn_rangeFunc_ownH rfl (by omega) (gf := 94) (lb := #[.pointer (some ⟨B, 0, none⟩), .pointer (some ⟨D, 0, none⟩)]) (by rw [hA0]; rfl) trivial (enters_of Tryz.func94 (by kernel_rfl) rfl)
              (encs := fun x : NbT m.wd N n => #[.int .i64 x.q]) (Kp := Below wa.heap.size) (S := fun ys => ∀ y : NbT m.wd N n, y ∈ ys) (Sp := fun _ => True) (N := 1000) (w0 := wa)
              (fun l J Jx W hW hJ _ hY hJ0 => nb1_in 1 (by omega) m.wd m.rw N n w1 (by omega) HNN.out (by omega) hnl l B D wa.heap.size (lt_of_blk HGB.out) (lt_of_blk HPB.out) J Jx W hW.size hJ hY ((hW.block _ (lt_of_blk HGB.out)).trans HGB.out) ((hW.block _ (lt_of_blk HPB.out)).trans HPB.out) hJ0)
              (fun h k => h.trans k) ?kb (Below.refl _ _) (fun _ => rfl)
              (fun pre W => (∀ y ∈ pre, farI (ev zs n) (ev zs y.q) ≤ m.sl) ∧ Below wa.heap.size wa W)
              (fun co pre W => co = .ret ∧ (∃ q : Nat, q < N ∧ distI m.wd n q = 1 ∧ m.sl < farI (ev zs n) (ev zs q)) ∧ W.heap[w.heap.size + 1 + 1]? = some (.cells #[.bool false] 4) ∧ Below w.heap.size w W ∧ wa.heap.size ≤ W.heap.size ∧ ∀ k, k < wa.heap.size → k ≠ w.heap.size + 1 + 1 → W.heap[k]? = wa.heap[k]?)
              ?hI ?hIx ⟨by simp, Below.refl _ _⟩
              (fun x a' W => a' = { tmps := (A0.tmps.setIfInBounds 57 (.int .i64 x.q)).setIfInBounds 8 (.int .i64 x.q), defers := [] }) ?hAx ?assign ?body ?done ?stop
            case kb => exact fun W l o o' h1 h2 h3 h4 => belowK_b (w := wa) (Nat.le_refl _) W l o o' h1 h2 h3 h4
            case hI =>
              rintro pre A' B' row ⟨hp, hb⟩ hg hr
              exact ⟨hp, hb.grown hg hb.size (fun k hk => (hr k hk).1)⟩
            case hIx =>
              rintro co pre A' B' row ⟨rfl, hq, h1, h2, h3, h4⟩ hg hr
              have l2 := HR.out.lt (List.mem_cons_of_mem _ (List.mem_cons_self ..))
              have l3 : wa.heap.size ≤ B'.heap.size := Nat.le_trans h3 hg.size
              have hne : ∀ k, k < wa.heap.size → some k ≠ row := fun k hk e => by have := (hr k e.symm).1; omega
              exact ⟨rfl, hq, (hg.block _ (lt_of_blk h1) (hne _ l2)).trans h1, h2.grown hg h2.size (fun k hk => by have := (hr k hk).1; have := HR.out.size; omega), l3, fun k hk hk' => (hg.block k (by omega) (hne k hk)).trans (h4 k hk hk')⟩
            case hAx => exact fun x a' _ A' B' row h _ _ => h
            case assign =>
              rintro l pre x W K2 ⟨hp, hb⟩ hK2
              subst hA0
              gi_wp2
              refine hK2 _ _ (KeepsFrom.refl _ _) (Below.refl _ _) ⟨hp, hb⟩ ?_
              kernel_rfl
            case body =>
              rintro l pre x a' W hl ⟨r, hr⟩ ⟨hp, hb⟩ rfl hlt
              have hqN : x.q < N := x.2.1
              have hd : distI m.wd n x.q = 1 := x.2.2
              obtain ⟨q, hxq⟩ : ∃ q, x.q = q := ⟨_, rfl⟩
              rw [hxq] at hqN hd ⊢
              have hz := HG2.out
              have hnlz : n < zs.length := by omega
              have hqlz : q < zs.length := by omega
              have v1 := betw_iff.1 (HVV.out _ (List.mem_of_getElem? (ev_is hnlz)))
              have v2 := betw_iff.1 (HVV.out _ (List.mem_of_getElem? (ev_is hqlz)))
              have HDF := Lib.hid (fun V => difference_any (ev zs n) (ev zs q) V (by omega) (by omega) (by omega) (by omega))
              have HPP := Lib.hid hp
              have HBB := Lib.hid hb
              have Hd := Lib.hid hd
              have Hz := Lib.hid hz
              have Hr := Lib.hid hr
              have HRW := Lib.hid (HR.out.below hb)
              clear hp hb hd v1 v2 hz hr
              subst hA0
              simp only [List.setIfInBounds_toArray, List.set_cons_zero, List.set_cons_succ]
              by_cases hfar : m.sl < farI (ev zs n) (ev zs q)
              · refine wpIn_block ?_
                refine wpIn_seq_k (fun K3 hK3 => ?_)
                have HK3 := Lib.hid hK3
                clear hK3
                refine wpIn_region_any (by kernel_rfl) ?_
                refine wpAnyIn_of_wpAny (noDefer_ok (by kernel_rfl)) (fun ⟨_, _, h⟩ => h) _ _ _ _ ?_
                refine wpAny_of_held (S := fun w' => (∀ o, w'.cell? ⟨w.heap.size + 1, o, none⟩ = #[Value.int .i64 m.wd, .slice (some ⟨zb, zo, none⟩) zs.length zc][o]?) ∧ (∀ o, w'.cell? ⟨w.heap.size, o, none⟩ = #[Value.int .i64 m.wd, .int .i64 m.rw, .int .i64 m.sl, (.slice A cs.length c), .int .i64 m.wd, .int .i64 m.rw][o]?) ∧ (∀ o, w'.cell? ⟨wr.heap.size, o, none⟩ = #[Value.int .i64 (n : Int)][o]?) ∧ w'.cell? ⟨zb, zo + n, none⟩ = some (.int .i64 (ev zs n)) ∧ w'.cell? ⟨zb, zo + q, none⟩ = some (.int .i64 (ev zs q))) _ _ _ _ ?_
                change wpAnyH _ _ _ _ _ _ _ _ (World.drew _)
                have hHeld : (fun w' => (∀ o, w'.cell? ⟨w.heap.size + 1, o, none⟩ = #[Value.int .i64 m.wd, .slice (some ⟨zb, zo, none⟩) zs.length zc][o]?) ∧ (∀ o, w'.cell? ⟨w.heap.size, o, none⟩ = #[Value.int .i64 m.wd, .int .i64 m.rw, .int .i64 m.sl, (.slice A cs.length c), .int .i64 m.wd, .int .i64 m.rw][o]?) ∧ (∀ o, w'.cell? ⟨wr.heap.size, o, none⟩ = #[Value.int .i64 (n : Int)][o]?) ∧ w'.cell? ⟨zb, zo + n, none⟩ = some (.int .i64 (ev zs n)) ∧ w'.cell? ⟨zb, zo + q, none⟩ = some (.int .i64 (ev zs q))) W.drew := ⟨(HRW.out.drew).cells (List.mem_cons_of_mem _ (List.mem_cons_of_mem _ (List.mem_cons_self ..))), (HRW.out.drew).cells (List.mem_cons_of_mem _ (List.mem_cons_of_mem _ (List.mem_cons_of_mem _ (List.mem_cons_self ..)))), (HRW.out.drew).cells (List.mem_cons_self ..), int_at HZ.out (HRW.out.drew).b (ev_is hnlz), int_at HZ.out (HRW.out.drew).b (ev_is hqlz)⟩
                refine wpAnyH_take (i := 0) (oi := ⟨some 58, _, _, _, _, _⟩) (v := ?va0) rfl (by kernel_rfl) (by kernel_rfl) (by kernel_rfl) (fun _ _ _ h => h) (Or.inl ⟨by kernel_rfl, ?hya0⟩) (by assumption) ?resta0
                case hya0 => (intro w hSw; (try dsimp only at hSw); go_simp) <;> (with_reducible rfl)
                try simp only [Act.put, List.setIfInBounds_toArray, List.set_cons_zero, List.set_cons_succ]
                refine wpAnyH_take (i := 1) (oi := ⟨some 59, _, _, _, _, _⟩) (v := ?va1) rfl (by kernel_rfl) (by kernel_rfl) (by kernel_rfl) (fun _ _ _ h => h) (Or.inl ⟨by kernel_rfl, ?hya1⟩) (by assumption) ?resta1
                case hya1 => (intro w hSw; (try dsimp only at hSw); go_simp) <;> (with_reducible rfl)
                try simp only [Act.put, List.setIfInBounds_toArray, List.set_cons_zero, List.set_cons_succ]
                refine wpAnyH_take (i := 2) (oi := ⟨some 60, _, _, _, _, _⟩) (v := ?va2) rfl (by kernel_rfl) (by kernel_rfl) (by kernel_rfl) (fun _ _ _ h => h) (Or.inl ⟨by kernel_rfl, ?hya2⟩) (by assumption) ?resta2
                case hya2 => (intro w hSw; (try dsimp only at hSw); go_simp) <;> (with_reducible rfl)
                try simp only [Act.put, List.setIfInBounds_toArray, List.set_cons_zero, List.set_cons_succ]
                refine wpAnyH_take (i := 3) (oi := ⟨some 61, _, _, _, _, _⟩) (v := ?va3) rfl (by kernel_rfl) (by kernel_rfl) (by kernel_rfl) (fun _ _ _ h => h) (Or.inl ⟨by kernel_rfl, ?hya3⟩) (by assumption) ?resta3
                case hya3 => (intro w hSw; (try dsimp only at hSw); go_simp) <;> (with_reducible rfl)
                try simp only [Act.put, List.setIfInBounds_toArray, List.set_cons_zero, List.set_cons_succ]
                refine wpAnyH_take (i := 4) (oi := ⟨some 62, _, _, _, _, _⟩) (v := ?va4) rfl (by kernel_rfl) (by kernel_rfl) (by kernel_rfl) (fun _ _ _ h => h) (Or.inl ⟨by kernel_rfl, ?hya4⟩) (by assumption) ?resta4
                case hya4 => (intro w hSw; (try dsimp only at hSw); go_simp) <;> (with_reducible rfl)
                try simp only [Act.put, List.setIfInBounds_toArray, List.set_cons_zero, List.set_cons_succ]
                refine wpAnyH_take (i := 5) (oi := ⟨some 63, _, _, _, _, _⟩) (v := ?va5) rfl (by kernel_rfl) (by kernel_rfl) (by kernel_rfl) (fun _ _ _ h => h) (Or.inl ⟨by kernel_rfl, ?hya5⟩) (by assumption) ?resta5
                case hya5 => (intro w hSw; (try dsimp only at hSw); go_simp) <;> (with_reducible rfl)
                try simp only [Act.put, List.setIfInBounds_toArray, List.set_cons_zero, List.set_cons_succ]
                refine wpAnyH_take (i := 6) (oi := ⟨some 64, _, _, _, _, _⟩) (v := ?va6) rfl (by kernel_rfl) (by kernel_rfl) (by kernel_rfl) (fun _ _ _ h => h) (Or.inl ⟨by kernel_rfl, ?hya6⟩) (by assumption) ?resta6
                case hya6 => (intro w hSw; (try dsimp only at hSw); go_simp) <;> (with_reducible rfl)
                try simp only [Act.put, List.setIfInBounds_toArray, List.set_cons_zero, List.set_cons_succ]
                refine wpAnyH_take (i := 7) (oi := ⟨some 65, _, _, _, _, _⟩) (v := ?va7) rfl (by kernel_rfl) (by kernel_rfl) (by kernel_rfl) (fun _ _ _ h => h) (Or.inl ⟨by kernel_rfl, ?hya7⟩) (by assumption) ?resta7
                case hya7 => (intro w hSw; (try dsimp only at hSw); go_simp) <;> (with_reducible rfl)
                try simp only [Act.put, List.setIfInBounds_toArray, List.set_cons_zero, List.set_cons_succ]
                refine wpAnyH_take (i := 8) (oi := ⟨some 66, _, _, _, _, _⟩) (v := ?va8) rfl (by kernel_rfl) (by kernel_rfl) (by kernel_rfl) (fun _ _ _ h => h) (Or.inl ⟨by kernel_rfl, ?hya8⟩) (by assumption) ?resta8
                case hya8 => (intro w hSw; (try dsimp only at hSw); go_simp) <;> (with_reducible rfl)
                try simp only [Act.put, List.setIfInBounds_toArray, List.set_cons_zero, List.set_cons_succ]
                refine wpAnyH_take (i := 9) (oi := ⟨some 67, _, _, _, _, _⟩) (v := ?va9) rfl (by kernel_rfl) (by kernel_rfl) (by kernel_rfl) (fun _ _ _ h => h) (Or.inl ⟨by kernel_rfl, ?hya9⟩) (by assumption) ?resta9
                case hya9 => (intro w hSw; (try dsimp only at hSw); go_simp) <;> (with_reducible rfl)
                try simp only [Act.put, List.setIfInBounds_toArray, List.set_cons_zero, List.set_cons_succ]
                refine wpAnyH_take (i := 11) (oi := ⟨some 69, _, _, _, _, _⟩) (v := ?va11) rfl (by kernel_rfl) (by kernel_rfl) (by kernel_rfl) (fun _ _ _ h => h) (Or.inl ⟨by kernel_rfl, ?hya11⟩) (by assumption) ?resta11
                case hya11 => (intro w hSw; (try dsimp only at hSw); go_simp) <;> (with_reducible rfl)
                try simp only [Act.put, List.setIfInBounds_toArray, List.set_cons_zero, List.set_cons_succ]
                refine wpAnyH_take (i := 12) (oi := ⟨some 70, _, _, _, _, _⟩) (v := ?va12) rfl (by kernel_rfl) (by kernel_rfl) (by kernel_rfl) (fun _ _ _ h => h) (Or.inl ⟨by kernel_rfl, ?hya12⟩) (by assumption) ?resta12
                case hya12 => (intro w hSw; (try dsimp only at hSw); go_simp) <;> (with_reducible rfl)
                try simp only [Act.put, List.setIfInBounds_toArray, List.set_cons_zero, List.set_cons_succ]
                refine wpAnyH_take (i := 13) (oi := ⟨some 71, _, _, _, _, _⟩) (v := ?va13) rfl (by kernel_rfl) (by kernel_rfl) (by kernel_rfl) (fun _ _ _ h => h) (Or.inl ⟨by kernel_rfl, ?hya13⟩) (by assumption) ?resta13
                case hya13 => (intro w hSw; (try dsimp only at hSw); go_simp) <;> (with_reducible rfl)
                try simp only [Act.put, List.setIfInBounds_toArray, List.set_cons_zero, List.set_cons_succ]
                refine wpAnyH_ready (rs := [10]) (by kernel_rfl) (by simp) ?_
                refine AllReadyH.cons (o := ⟨some 68, _, _, _, _, _⟩) rfl (fun K4 hK4 => ?_) AllReadyH.nil
                go_simp
                go_at_call 69
                refine (HDF.out _).mono ?_
                rintro e wb ⟨rfl, hbb⟩
                have hbb := Lib.hid hbb
                try go_wp2_with fail
                clear hHeld
                refine hK4.out _ _ ?_ (fun hHeld => ?_)
                · (try dsimp only); exact ⟨(HRW.out.drew.below hbb.out).cells (List.mem_cons_of_mem _ (List.mem_cons_of_mem _ (List.mem_cons_self ..))), (HRW.out.drew.below hbb.out).cells (List.mem_cons_of_mem _ (List.mem_cons_of_mem _ (List.mem_cons_of_mem _ (List.mem_cons_self ..)))), (HRW.out.drew.below hbb.out).cells (List.mem_cons_self ..), int_at HZ.out (HRW.out.drew.below hbb.out).b (ev_is hnlz), int_at HZ.out (HRW.out.drew.below hbb.out).b (ev_is hqlz)⟩
                clear hK4 K4
                try simp only [Act.put, List.setIfInBounds_toArray, List.set_cons_zero, List.set_cons_succ]
                refine wpAnyH_take (i := 14) (oi := ⟨some 72, _, _, _, _, _⟩) (v := ?va14) rfl (by kernel_rfl) (by kernel_rfl) (by kernel_rfl) (fun _ _ _ h => h) (Or.inl ⟨by kernel_rfl, ?hya14⟩) (by assumption) ?resta14
                case hya14 => (intro w hSw; (try dsimp only at hSw); go_simp) <;> (with_reducible rfl)
                try simp only [Act.put, List.setIfInBounds_toArray, List.set_cons_zero, List.set_cons_succ]
                refine wpAnyH_done (by kernel_rfl) ?_ _
                have hbd := Lib.hid (((Below.refl W.heap.size W).drew).trans (show Below W.heap.size W.drew wb from hbb.out))
                refine HK3.out _ _ ?_
                have HRb := Lib.hid (HRW.out.drew.below hbb.out)
                have u0 := HRb.out.cells (List.mem_cons_of_mem _ (List.mem_cons_self ..))
                have f0 := HRb.out.free (List.mem_cons_of_mem _ (List.mem_cons_self ..))
                have l0 := HRb.out.lt (List.mem_cons_of_mem _ (List.mem_cons_self ..))
                gi_wp2
                refine ⟨?_, rfl, ⟨q, hqN, Hd.out, hfar⟩, heap_setCell_same (o := 0) (HRb.out.h _ (List.mem_cons_of_mem _ (List.mem_cons_self ..))) (.bool false), HRb.out.b.setCell (by simp <;> omega) _, ?_, fun k hk hk' => ?_⟩
                · exact KeepsFrom.trans (B := _) ⟨hbd.out.size, fun k o hk ho _ => blk_below ho hbd.out⟩ ((KeepsOthers.setCell _ _ _).from _)
                · simp only [World.size_setCell]; exact Nat.le_trans HBB.out.size hbd.out.size
                · exact (Below.heap_setCell _ _ _ _ (by simpa using hk')).trans ((hbd.out.block k (Nat.lt_of_lt_of_le hk HBB.out.size)).trans (HBB.out.block k hk))
              · refine wpIn_block ?_
                refine wpIn_seq_k (fun K3 hK3 => ?_)
                have HK3 := Lib.hid hK3
                clear hK3
                refine wpIn_region_any (by kernel_rfl) ?_
                refine wpAnyIn_of_wpAny (noDefer_ok (by kernel_rfl)) (fun ⟨_, _, h⟩ => h) _ _ _ _ ?_
                refine wpAny_of_held (S := fun w' => (∀ o, w'.cell? ⟨w.heap.size + 1, o, none⟩ = #[Value.int .i64 m.wd, .slice (some ⟨zb, zo, none⟩) zs.length zc][o]?) ∧ (∀ o, w'.cell? ⟨w.heap.size, o, none⟩ = #[Value.int .i64 m.wd, .int .i64 m.rw, .int .i64 m.sl, (.slice A cs.length c), .int .i64 m.wd, .int .i64 m.rw][o]?) ∧ (∀ o, w'.cell? ⟨wr.heap.size, o, none⟩ = #[Value.int .i64 (n : Int)][o]?) ∧ w'.cell? ⟨zb, zo + n, none⟩ = some (.int .i64 (ev zs n)) ∧ w'.cell? ⟨zb, zo + q, none⟩ = some (.int .i64 (ev zs q))) _ _ _ _ ?_
                change wpAnyH _ _ _ _ _ _ _ _ (World.drew _)
                have hHeld : (fun w' => (∀ o, w'.cell? ⟨w.heap.size + 1, o, none⟩ = #[Value.int .i64 m.wd, .slice (some ⟨zb, zo, none⟩) zs.length zc][o]?) ∧ (∀ o, w'.cell? ⟨w.heap.size, o, none⟩ = #[Value.int .i64 m.wd, .int .i64 m.rw, .int .i64 m.sl, (.slice A cs.length c), .int .i64 m.wd, .int .i64 m.rw][o]?) ∧ (∀ o, w'.cell? ⟨wr.heap.size, o, none⟩ = #[Value.int .i64 (n : Int)][o]?) ∧ w'.cell? ⟨zb, zo + n, none⟩ = some (.int .i64 (ev zs n)) ∧ w'.cell? ⟨zb, zo + q, none⟩ = some (.int .i64 (ev zs q))) W.drew := ⟨(HRW.out.drew).cells (List.mem_cons_of_mem _ (List.mem_cons_of_mem _ (List.mem_cons_self ..))), (HRW.out.drew).cells (List.mem_cons_of_mem _ (List.mem_cons_of_mem _ (List.mem_cons_of_mem _ (List.mem_cons_self ..)))), (HRW.out.drew).cells (List.mem_cons_self ..), int_at HZ.out (HRW.out.drew).b (ev_is hnlz), int_at HZ.out (HRW.out.drew).b (ev_is hqlz)⟩
                refine wpAnyH_take (i := 0) (oi := ⟨some 58, _, _, _, _, _⟩) (v := ?vb0) rfl (by kernel_rfl) (by kernel_rfl) (by kernel_rfl) (fun _ _ _ h => h) (Or.inl ⟨by kernel_rfl, ?hyb0⟩) (by assumption) ?restb0
                case hyb0 => (intro w hSw; (try dsimp only at hSw); go_simp) <;> (with_reducible rfl)
                try simp only [Act.put, List.setIfInBounds_toArray, List.set_cons_zero, List.set_cons_succ]
                refine wpAnyH_take (i := 1) (oi := ⟨some 59, _, _, _, _, _⟩) (v := ?vb1) rfl (by kernel_rfl) (by kernel_rfl) (by kernel_rfl) (fun _ _ _ h => h) (Or.inl ⟨by kernel_rfl, ?hyb1⟩) (by assumption) ?restb1
                case hyb1 => (intro w hSw; (try dsimp only at hSw); go_simp) <;> (with_reducible rfl)
                try simp only [Act.put, List.setIfInBounds_toArray, List.set_cons_zero, List.set_cons_succ]
                refine wpAnyH_take (i := 2) (oi := ⟨some 60, _, _, _, _, _⟩) (v := ?vb2) rfl (by kernel_rfl) (by kernel_rfl) (by kernel_rfl) (fun _ _ _ h => h) (Or.inl ⟨by kernel_rfl, ?hyb2⟩) (by assumption) ?restb2
                case hyb2 => (intro w hSw; (try dsimp only at hSw); go_simp) <;> (with_reducible rfl)
                try simp only [Act.put, List.setIfInBounds_toArray, List.set_cons_zero, List.set_cons_succ]
                refine wpAnyH_take (i := 3) (oi := ⟨some 61, _, _, _, _, _⟩) (v := ?vb3) rfl (by kernel_rfl) (by kernel_rfl) (by kernel_rfl) (fun _ _ _ h => h) (Or.inl ⟨by kernel_rfl, ?hyb3⟩) (by assumption) ?restb3
                case hyb3 => (intro w hSw; (try dsimp only at hSw); go_simp) <;> (with_reducible rfl)
                try simp only [Act.put, List.setIfInBounds_toArray, List.set_cons_zero, List.set_cons_succ]
                refine wpAnyH_take (i := 4) (oi := ⟨some 62, _, _, _, _, _⟩) (v := ?vb4) rfl (by kernel_rfl) (by kernel_rfl) (by kernel_rfl) (fun _ _ _ h => h) (Or.inl ⟨by kernel_rfl, ?hyb4⟩) (by assumption) ?restb4
                case hyb4 => (intro w hSw; (try dsimp only at hSw); go_simp) <;> (with_reducible rfl)
                try simp only [Act.put, List.setIfInBounds_toArray, List.set_cons_zero, List.set_cons_succ]
                refine wpAnyH_take (i := 5) (oi := ⟨some 63, _, _, _, _, _⟩) (v := ?vb5) rfl (by kernel_rfl) (by kernel_rfl) (by kernel_rfl) (fun _ _ _ h => h) (Or.inl ⟨by kernel_rfl, ?hyb5⟩) (by assumption) ?restb5
                case hyb5 => (intro w hSw; (try dsimp only at hSw); go_simp) <;> (with_reducible rfl)
                try simp only [Act.put, List.setIfInBounds_toArray, List.set_cons_zero, List.set_cons_succ]
                refine wpAnyH_take (i := 6) (oi := ⟨some 64, _, _, _, _, _⟩) (v := ?vb6) rfl (by kernel_rfl) (by kernel_rfl) (by kernel_rfl) (fun _ _ _ h => h) (Or.inl ⟨by kernel_rfl, ?hyb6⟩) (by assumption) ?restb6
                case hyb6 => (intro w hSw; (try dsimp only at hSw); go_simp) <;> (with_reducible rfl)
                try simp only [Act.put, List.setIfInBounds_toArray, List.set_cons_zero, List.set_cons_succ]
                refine wpAnyH_take (i := 7) (oi := ⟨some 65, _, _, _, _, _⟩) (v := ?vb7) rfl (by kernel_rfl) (by kernel_rfl) (by kernel_rfl) (fun _ _ _ h => h) (Or.inl ⟨by kernel_rfl, ?hyb7⟩) (by assumption) ?restb7
                case hyb7 => (intro w hSw; (try dsimp only at hSw); go_simp) <;> (with_reducible rfl)
                try simp only [Act.put, List.setIfInBounds_toArray, List.set_cons_zero, List.set_cons_succ]
                refine wpAnyH_take (i := 8) (oi := ⟨some 66, _, _, _, _, _⟩) (v := ?vb8) rfl (by kernel_rfl) (by kernel_rfl) (by kernel_rfl) (fun _ _ _ h => h) (Or.inl ⟨by kernel_rfl, ?hyb8⟩) (by assumption) ?restb8
                case hyb8 => (intro w hSw; (try dsimp only at hSw); go_simp) <;> (with_reducible rfl)
                try simp only [Act.put, List.setIfInBounds_toArray, List.set_cons_zero, List.set_cons_succ]
                refine wpAnyH_take (i := 9) (oi := ⟨some 67, _, _, _, _, _⟩) (v := ?vb9) rfl (by kernel_rfl) (by kernel_rfl) (by kernel_rfl) (fun _ _ _ h => h) (Or.inl ⟨by kernel_rfl, ?hyb9⟩) (by assumption) ?restb9
                case hyb9 => (intro w hSw; (try dsimp only at hSw); go_simp) <;> (with_reducible rfl)
                try simp only [Act.put, List.setIfInBounds_toArray, List.set_cons_zero, List.set_cons_succ]
                refine wpAnyH_take (i := 11) (oi := ⟨some 69, _, _, _, _, _⟩) (v := ?vb11) rfl (by kernel_rfl) (by kernel_rfl) (by kernel_rfl) (fun _ _ _ h => h) (Or.inl ⟨by kernel_rfl, ?hyb11⟩) (by assumption) ?restb11
                case hyb11 => (intro w hSw; (try dsimp only at hSw); go_simp) <;> (with_reducible rfl)
                try simp only [Act.put, List.setIfInBounds_toArray, List.set_cons_zero, List.set_cons_succ]
                refine wpAnyH_take (i := 12) (oi := ⟨some 70, _, _, _, _, _⟩) (v := ?vb12) rfl (by kernel_rfl) (by kernel_rfl) (by kernel_rfl) (fun _ _ _ h => h) (Or.inl ⟨by kernel_rfl, ?hyb12⟩) (by assumption) ?restb12
                case hyb12 => (intro w hSw; (try dsimp only at hSw); go_simp) <;> (with_reducible rfl)
                try simp only [Act.put, List.setIfInBounds_toArray, List.set_cons_zero, List.set_cons_succ]
                refine wpAnyH_take (i := 13) (oi := ⟨some 71, _, _, _, _, _⟩) (v := ?vb13) rfl (by kernel_rfl) (by kernel_rfl) (by kernel_rfl) (fun _ _ _ h => h) (Or.inl ⟨by kernel_rfl, ?hyb13⟩) (by assumption) ?restb13
                case hyb13 => (intro w hSw; (try dsimp only at hSw); go_simp) <;> (with_reducible rfl)
                try simp only [Act.put, List.setIfInBounds_toArray, List.set_cons_zero, List.set_cons_succ]
                refine wpAnyH_ready (rs := [10]) (by kernel_rfl) (by simp) ?_
                refine AllReadyH.cons (o := ⟨some 68, _, _, _, _, _⟩) rfl (fun K4 hK4 => ?_) AllReadyH.nil
                go_simp
                go_at_call 69
                refine (HDF.out _).mono ?_
                rintro e wb ⟨rfl, hbb⟩
                have hbb := Lib.hid hbb
                try go_wp2_with fail
                clear hHeld
                refine hK4.out _ _ ?_ (fun hHeld => ?_)
                · (try dsimp only); exact ⟨(HRW.out.drew.below hbb.out).cells (List.mem_cons_of_mem _ (List.mem_cons_of_mem _ (List.mem_cons_self ..))), (HRW.out.drew.below hbb.out).cells (List.mem_cons_of_mem _ (List.mem_cons_of_mem _ (List.mem_cons_of_mem _ (List.mem_cons_self ..)))), (HRW.out.drew.below hbb.out).cells (List.mem_cons_self ..), int_at HZ.out (HRW.out.drew.below hbb.out).b (ev_is hnlz), int_at HZ.out (HRW.out.drew.below hbb.out).b (ev_is hqlz)⟩
                clear hK4 K4
                try simp only [Act.put, List.setIfInBounds_toArray, List.set_cons_zero, List.set_cons_succ]
                refine wpAnyH_take (i := 14) (oi := ⟨some 72, _, _, _, _, _⟩) (v := ?vb14) rfl (by kernel_rfl) (by kernel_rfl) (by kernel_rfl) (fun _ _ _ h => h) (Or.inl ⟨by kernel_rfl, ?hyb14⟩) (by assumption) ?restb14
                case hyb14 => (intro w hSw; (try dsimp only at hSw); go_simp) <;> (with_reducible rfl)
                try simp only [Act.put, List.setIfInBounds_toArray, List.set_cons_zero, List.set_cons_succ]
                refine wpAnyH_done (by kernel_rfl) ?_ _
                have hbd := Lib.hid (((Below.refl W.heap.size W).drew).trans (show Below W.heap.size W.drew wb from hbb.out))
                refine HK3.out _ _ ?_
                gi_wp2
                refine ⟨⟨hbd.out.size, fun k o hk ho _ => blk_below ho hbd.out⟩, hbd.out.mono HBB.out.size, fun y hy => ?_, HBB.out.trans (hbd.out.mono HBB.out.size)⟩
                rcases List.mem_append.1 hy with h | h
                · exact HPP.out y h
                · obtain rfl : y = x := by simpa using h
                  rw [hxq]; omega
            case done =>
              rintro E ys W hE hS ⟨hp, hb⟩ hKD
              have HS := Lib.hid hS
              have HPP := Lib.hid hp
              have HRW := Lib.hid (HR.out.below hb)
              have HM2 := Lib.hid (((HM.out.below ((Below.refl _ _).alloc (Nat.le_refl _) _)).below HBA.out).below hb)
              have HMA := Lib.hid ((HM.out.below ((Below.refl _ _).alloc (Nat.le_refl _) _)).below HBA.out)
              have hwz := HR.out.size
              have HKD := Lib.hid hKD
              subst hA0
              clear hS hp hb hKD
              go_wp2_with fail
              refine HK.out _ _ _ ?_ ⟨n + 1, by omega, by go_num, fun p q h1 h2 h3 => ?_, HM2.out.add (by omega) HKD.out (HMA.out.ne hE), HRW.out.tail⟩ ?_
              · kernel_rfl
              · rcases Nat.lt_or_ge p n with h4 | h4
                · exact HA2.out p q h4 h2 h3
                · obtain rfl : p = n := by omega
                  exact HPP.out _ (HS.out (NbT.mk q h2 h3))
              · rw [h50]; simp [intOf]; omega
            case stop =>
              rintro E co pre W hE hU ⟨rfl, ⟨q, hq, hd, hfar⟩, h1, h2, h3, h4⟩ hKD
              have hz := HG2.out
              have HX := Lib.hid (not_fits (cs := cs) (wd := m.wd) (p := n) (q := q) (zs := zs) (by omega) (by omega) hd hfar)
              obtain ⟨L, rfl, hL, hLa⟩ := (HM.out.below ((Below.refl _ _).alloc (Nat.le_refl _) _)).below HBA.out
              have hwz := HR.out.size
              have hnb : w.heap.size + 1 + 1 ∉ L := fun hm => by
                have e1 := (hLa _ hm).2
                have e2 := HR.out.h _ (List.mem_cons_of_mem _ (List.mem_cons_self ..))
                rw [e1] at e2; cases e2
              subst hA0
              refine wpIn_wide.2 ?_
              go_wp2_with fail
              refine leaves_marks (B := w.heap.size) (l := E :: L) (List.nodup_cons.2 ⟨fun hm => ?_, hL⟩) (fun D2 hD2 => ?_) fun w' hb' hs' => ?_
              · have := lt_of_blk (hLa _ hm).2; omega
              · rcases List.mem_cons.1 hD2 with rfl | hD2
                · exact ⟨by omega, hKD⟩
                · refine ⟨(hLa _ hD2).1, (h4 _ (lt_of_blk (hLa _ hD2).2) fun e => hnb (e ▸ hD2)).trans (hLa _ hD2).2⟩
              · have hbx := (hs' (w.heap.size + 1 + 1) (fun hm => by
                  rcases List.mem_cons.1 hm with e | hm
                  · have := HR.out.lt (List.mem_cons_of_mem _ (List.mem_cons_self ..)); omega
                  · exact hnb hm)).trans h1
                have u0 := (boxCells hbx).1
                exact ⟨.bool false, by simp [results, Tryz.results38, go_sem, u0], ret_bool HX.out.symm, h2.trans hb'⟩
          · obtain rfl : n = N := by omega
            have hnl2 : ¬ (n : Int) < (n : Int) := by omega
            have HT := Lib.hid (show true = fitsB m cs m.wd zs from (fitsB_iff.2 ⟨rfl, by have := HG2.out; have := HNN.out; omega, HOWN.out, fun p q h1 h2 h3 => by have hz := HG2.out; exact HA2.out p q (by omega) (by omega) h3⟩).symm)
            have f0 := HR.out.free (List.mem_cons_self ..)
            have l0 := HR.out.lt (List.mem_cons_self ..)
            obtain ⟨L, rfl, hL, hLa⟩ := HM.out
            go_wp2_with fail
            have hF := Frm.put HR.out (by omega) (by simp <;> omega) 0 (.bool true)
            have hnb : w.heap.size + 1 + 1 ∉ L := fun hm => by
              have e1 := (hLa _ hm).2
              have e2 := HR.out.h _ (List.mem_cons_self ..)
              rw [e1] at e2; cases e2
            refine leaves_marks (B := w.heap.size) (l := L) hL (fun D2 hD2 => ⟨(hLa _ hD2).1, (Below.heap_setCell _ _ _ _ (fun e => hnb (by have e' : D2 = w.heap.size + 1 + 1 := e; rwa [e'] at hD2))).trans (hLa _ hD2).2⟩) fun w' hb' hs' => ?_
            have hbx := (hs' (w.heap.size + 1 + 1) hnb).trans (hF.h _ (List.mem_cons_self ..))
            have u0 := (boxCells hbx).1
            exact ⟨.bool true, by simp [results, Tryz.results38, go_sem, u0], ret_bool HT.out, hF.b.trans hb'⟩
end Go.Proofs.YtaolfdgkflfekaaGreatDoor
