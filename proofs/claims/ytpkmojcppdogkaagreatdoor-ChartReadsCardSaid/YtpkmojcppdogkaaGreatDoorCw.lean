/- The reference's Bound. -/
import Derived.Test.YtpkmojcppdogkaaGreatDoorCz
import Derived.BigRegion
set_option linter.unusedVariables false
set_option linter.unusedSimpArgs false
namespace Go.Proofs.YtpkmojcppdogkaaGreatDoor
open Go.RowKit
open Go.Maps
set_option maxHeartbeats 4000000 in
set_option maxRecDepth 100000 in
theorem rBound_any (m : Mp) (A : Option Addr) (c : Nat) (cs : List Sta) (p : Int) (w : World) (hs : Sane m cs) (hp0 : 0 ≤ p) (hp1 : p ≤ 30) (hc : Stas w (.slice A cs.length c) cs) :
    Calls Tryz.prog 72 #[mpV m (.slice A cs.length c), .int .i64 p] w fun e w' => e = .returned (.agg #[.int .i64 (lowestF m.wd m.sl p cs), .int .i64 (highestF m.wd m.sl p cs)]) ∧ Below w.heap.size w w' := by
  have HC0 := Lib.hid hc
  clear hc
  have ok := hs.ok
  have w1 := ok.w1; have w2 := ok.w2; have s0 := ok.s0; have s1 := ok.s1; have a1 := ok.a1; have a2 := ok.a2
  have hlen := hs.len
  have HR := Lib.hid ((((Frm.nil w).add (mpBox m (.slice A cs.length c)) rfl).add (k := w.heap.size + 1) (.cells #[.int .i64 0, .int .i64 0] 41) (by simp)).add (k := w.heap.size + 1 + 1) (.cells #[.int .i64 0, .int .i64 99999] 41) (by simp))
  have x0 := HR.out.cells (List.mem_cons_self ..)
  have x1 := HR.out.cells (List.mem_cons_of_mem _ (List.mem_cons_self ..))
  have x2 := HR.out.cells (List.mem_cons_of_mem _ (List.mem_cons_of_mem _ (List.mem_cons_self ..)))
  go_enter Tryz.func72, Tryz.ntmps72
  go_wp2_with fail
  go_loopw [6, 7, 8] (fun i _ _ wr => ∃ n : Nat, n ≤ cs.length ∧ i = .int .i64 n ∧ Frm w [(w.heap.size + 1 + 1, (.cells #[.int .i64 (lowestF m.wd m.sl p (cs.take n)), .int .i64 (highestF m.wd m.sl p (cs.take n))] 41)), (w.heap.size + 1, (.cells #[.int .i64 0, .int .i64 0] 41)), (w.heap.size, (mpBox m (.slice A cs.length c)))] wr) (fun i _ _ _ => cs.length - (intOf i).toNat)
  case atStart => exact ⟨0, Nat.zero_le _, rfl, HR.out⟩
  case round =>
    obtain ⟨n, hn, rfl, hF⟩ := hrel
    clear HR x0 x1 x2
    have HR := Lib.hid hF
    clear hF
    have hz := HR.out.lt (List.mem_cons_self ..)
    by_cases hnl : n < cs.length
    · obtain ⟨x, hx⟩ : ∃ x, cs[n]? = some x := ⟨_, List.getElem?_eq_getElem hnl⟩
      obtain ⟨b, off, hA, hcap, hm, c0, c1, c2⟩ := sta_cells (HC0.out.below HR.out.b) hx
      unfold maxLen at hm
      subst hA
      have hxo := hs.all x (List.mem_of_getElem? hx)
      obtain ⟨g0, g1, g2, g3, g4⟩ := hxo
      have HS1 := Lib.hid (lowest_snoc m.wd m.sl p hx)
      have HS2 := Lib.hid (highest_snoc m.wd m.sl p hx)
      obtain ⟨d0, d1, d2, d3⟩ := dist_bd (wd := m.wd) (a := p) (b := x.pt) w1 (by omega) (by omega) (by omega) (by omega)
      have p0 : 0 ≤ m.sl * distI m.wd p x.pt := sl_nonneg s0
      have p1 : m.sl * distI m.wd p x.pt ≤ 1000000 * 2000000 := Int.mul_le_mul (by omega) (by unfold distI; omega) (by unfold distI; omega) (by omega)
      have HD := Lib.hid (fun W => rDistance_any m.wd p x.pt W w1 (by omega) (by omega) (by omega) (by omega) (by omega))
      have e0 : IntKind.i64.wrap (m.sl * distI m.wd p x.pt) = m.sl * distI m.wd p x.pt := IntWalk.i64_in _ (by omega)
      clear d0 d1 d2 d3 hx
      generalize distI m.wd p x.pt = dd at *
      obtain ⟨q, hq⟩ : ∃ q, q = m.sl * dd := ⟨_, rfl⟩
      rw [← hq] at p0 p1 e0
      have Hq := Lib.hid hq
      simp only [← hq] at HS1 HS2
      have e0' : IntKind.i64.wrap (m.sl * dd) = q := by rw [← hq]; exact e0
      clear hq e0
      have e1 : IntKind.i64.wrap (x.lo - q) = x.lo - q := IntWalk.i64_in _ (by omega)
      have e2 : IntKind.i64.wrap (x.hi + q) = x.hi + q := IntWalk.i64_in _ (by omega)
      generalize hlo : lowestF m.wd m.sl p (cs.take n) = lo at *
      generalize hhi : highestF m.wd m.sl p (cs.take n) = hi at *
      clear hlo hhi
      have x0 := HR.out.cells (List.mem_cons_self ..)
      have x2 := HR.out.cells (List.mem_cons_of_mem _ (List.mem_cons_of_mem _ (List.mem_cons_self ..)))
      go_upto_region 6 with fail
      have HRq := Lib.hid (HR.out.add (stBox x) rfl)
      clear HR x0 x2 c0 c1 c2
      have HR := HRq
      clear HRq
      have x0 := HR.out.cells (List.mem_cons_self ..)
      have x1 := HR.out.cells (List.mem_cons_of_mem _ (List.mem_cons_self ..))
      have x2 := HR.out.cells (List.mem_cons_of_mem _ (List.mem_cons_of_mem _ (List.mem_cons_self ..)))
      have x3 := HR.out.cells (List.mem_cons_of_mem _ (List.mem_cons_of_mem _ (List.mem_cons_of_mem _ (List.mem_cons_self ..))))
      go_region_held3 (fun w' => (∀ o, w'.cell? ⟨wr.heap.size, o, none⟩ = #[Value.int .i64 x.pt, .int .i64 x.lo, .int .i64 x.hi][o]?) ∧ (∀ o, w'.cell? ⟨w.heap.size, o, none⟩ = #[Value.int .i64 m.wd, .int .i64 m.rw, .int .i64 m.sl, (.slice (some ⟨b, off, none⟩) cs.length c)][o]?)) ((exact (fun hF : Frm w [(wr.heap.size, (stBox x)), (w.heap.size + 1 + 1, (.cells #[.int .i64 lo, .int .i64 hi] 41)), (w.heap.size + 1, (.cells #[.int .i64 0, .int .i64 0] 41)), (w.heap.size, (mpBox m (.slice (some ⟨b, off, none⟩) cs.length c)))] _ => ⟨hF.cells (List.mem_cons_self ..), hF.cells (List.mem_cons_of_mem _ (List.mem_cons_of_mem _ (List.mem_cons_of_mem _ (List.mem_cons_self ..))))⟩) (by (repeat (with_reducible first | exact HR.out | apply Frm.drew | apply Frm.alloc | apply Frm.drewN))))) ((go_at_call 65; refine (HD.out _).mono ?_; rintro e wa ⟨rfl, hba⟩; have HRq := Lib.hid (Frm.below (w := w) (bs := [(wr.heap.size, (stBox x)), (w.heap.size + 1 + 1, (.cells #[.int .i64 lo, .int .i64 hi] 41)), (w.heap.size + 1, (.cells #[.int .i64 0, .int .i64 0] 41)), (w.heap.size, (mpBox m (.slice (some ⟨b, off, none⟩) cs.length c)))]) (by (repeat (with_reducible first | exact HR.out | apply Frm.drew | apply Frm.alloc | apply Frm.drewN))) hba); clear HR; have HR := HRq; clear HRq hba))
      all_goals
        clear x0 x1 x2 x3
        have x0 := HR.out.cells (List.mem_cons_self ..)
        have x1 := HR.out.cells (List.mem_cons_of_mem _ (List.mem_cons_self ..))
        have x2 := HR.out.cells (List.mem_cons_of_mem _ (List.mem_cons_of_mem _ (List.mem_cons_self ..)))
        have x3 := HR.out.cells (List.mem_cons_of_mem _ (List.mem_cons_of_mem _ (List.mem_cons_of_mem _ (List.mem_cons_self ..))))
        have f1 := HR.out.free (List.mem_cons_of_mem _ (List.mem_cons_self ..))
        have l1 := HR.out.lt (List.mem_cons_of_mem _ (List.mem_cons_self ..))
        have HX1 := Lib.hid (Frm.less (bs' := [(wr.heap.size, (stBox x))]) HR.out (fun p hp => by simp only [List.mem_cons, List.not_mem_nil, or_false] at hp ⊢; subst hp; simp))
        go_upto_region 7 with fail
        rcases Int.lt_or_le lo (x.lo - q) with ha | ha
        · rcases Int.lt_or_le (x.hi + q) hi with hb | hb
          · go_region
            all_goals
              go_wp2_with fail
              go_roundw
              case rel =>
                have hp := Frm.put2 (Frm.less (bs' := [(w.heap.size + 1 + 1, (.cells #[.int .i64 lo, .int .i64 hi] 41)), (w.heap.size + 1, (.cells #[.int .i64 0, .int .i64 0] 41)), (w.heap.size, (mpBox m (.slice (some ⟨b, off, none⟩) cs.length c)))]) HR.out (fun p hp => List.mem_cons_of_mem _ hp)) (by omega) (by simp <;> omega) (.int .i64 (x.lo - q)) (.int .i64 (x.hi + q))
                rw [show (x.lo - q) = max lo (x.lo - q) by omega, show (x.hi + q) = min hi (x.hi + q) by omega] at hp
                refine ⟨n + 1, by omega, by go_num, ?_⟩
                rw [HS1.out, HS2.out]
                first | exact hp | exact hp.drew
              case measure => simp [intOf]; omega
          · go_region
            all_goals
              go_wp2_with fail
              go_roundw
              case rel =>
                have hp := Frm.put2 (Frm.less (bs' := [(w.heap.size + 1 + 1, (.cells #[.int .i64 lo, .int .i64 hi] 41)), (w.heap.size + 1, (.cells #[.int .i64 0, .int .i64 0] 41)), (w.heap.size, (mpBox m (.slice (some ⟨b, off, none⟩) cs.length c)))]) HR.out (fun p hp => List.mem_cons_of_mem _ hp)) (by omega) (by simp <;> omega) (.int .i64 (x.lo - q)) (.int .i64 hi)
                rw [show (x.lo - q) = max lo (x.lo - q) by omega, show hi = min hi (x.hi + q) by omega] at hp
                refine ⟨n + 1, by omega, by go_num, ?_⟩
                rw [HS1.out, HS2.out]
                first | exact hp | exact hp.drew
              case measure => simp [intOf]; omega
        · rcases Int.lt_or_le (x.hi + q) hi with hb | hb
          · go_region
            all_goals
              go_wp2_with fail
              go_roundw
              case rel =>
                have hp := Frm.put2 (Frm.less (bs' := [(w.heap.size + 1 + 1, (.cells #[.int .i64 lo, .int .i64 hi] 41)), (w.heap.size + 1, (.cells #[.int .i64 0, .int .i64 0] 41)), (w.heap.size, (mpBox m (.slice (some ⟨b, off, none⟩) cs.length c)))]) HR.out (fun p hp => List.mem_cons_of_mem _ hp)) (by omega) (by simp <;> omega) (.int .i64 lo) (.int .i64 (x.hi + q))
                rw [show lo = max lo (x.lo - q) by omega, show (x.hi + q) = min hi (x.hi + q) by omega] at hp
                refine ⟨n + 1, by omega, by go_num, ?_⟩
                rw [HS1.out, HS2.out]
                first | exact hp | exact hp.drew
              case measure => simp [intOf]; omega
          · go_region
            all_goals
              go_wp2_with fail
              go_roundw
              case rel =>
                have hp := Frm.put2 (Frm.less (bs' := [(w.heap.size + 1 + 1, (.cells #[.int .i64 lo, .int .i64 hi] 41)), (w.heap.size + 1, (.cells #[.int .i64 0, .int .i64 0] 41)), (w.heap.size, (mpBox m (.slice (some ⟨b, off, none⟩) cs.length c)))]) HR.out (fun p hp => List.mem_cons_of_mem _ hp)) (by omega) (by simp <;> omega) (.int .i64 lo) (.int .i64 hi)
                rw [show lo = max lo (x.lo - q) by omega, show hi = min hi (x.hi + q) by omega] at hp
                refine ⟨n + 1, by omega, by go_num, ?_⟩
                rw [HS1.out, HS2.out]
                first | exact hp | exact hp.drew
              case measure => simp [intOf]; omega
    · obtain rfl : n = cs.length := by omega
      have HT := Lib.hid (show cs.take cs.length = cs from List.take_length)
      rw [HT.out] at HR
      have x0 := HR.out.cells (List.mem_cons_self ..)
      have x1 := HR.out.cells (List.mem_cons_of_mem _ (List.mem_cons_self ..))
      have x2 := HR.out.cells (List.mem_cons_of_mem _ (List.mem_cons_of_mem _ (List.mem_cons_self ..)))
      have f1 := HR.out.free (List.mem_cons_of_mem _ (List.mem_cons_self ..))
      have l1 := HR.out.lt (List.mem_cons_of_mem _ (List.mem_cons_self ..))
      go_wp2_with fail
      have hF := Frm.put2 (Frm.less (bs' := [(w.heap.size + 1, (.cells #[.int .i64 0, .int .i64 0] 41)), (w.heap.size + 1 + 1, (.cells #[.int .i64 (lowestF m.wd m.sl p cs), .int .i64 (highestF m.wd m.sl p cs)] 41)), (w.heap.size, (mpBox m (.slice A cs.length c)))]) HR.out (fun p hp => by simp only [List.mem_cons, List.not_mem_nil, or_false] at hp ⊢; rcases hp with rfl | rfl | rfl <;> simp)) (by omega) (by simp <;> omega) (.int .i64 (lowestF m.wd m.sl p cs)) (.int .i64 (highestF m.wd m.sl p cs))
      have u0 := hF.cells (List.mem_cons_self ..)
      exact bodyPost_ret (v := .agg #[.int .i64 (lowestF m.wd m.sl p cs), .int .i64 (highestF m.wd m.sl p cs)]) (by simp [results, Tryz.results72, go_sem, u0]) rfl ⟨rfl, hF.b⟩
end Go.Proofs.YtpkmojcppdogkaaGreatDoor
