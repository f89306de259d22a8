/- The reference's search for comparisons that contradict each other. -/
import Derived.Test.YtffgcphmakfikaaDoorKno
set_option linter.unusedVariables false
set_option linter.unusedSimpArgs false
namespace Go.Proofs.YtffgcphmakfikaaDoor
open Go.RowKit Go.Maps

set_option maxHeartbeats 2000000 in
set_option maxRecDepth 100000 in
theorem rContra_any (s : Stn) (cs : List Chk) (b off cap i k : Nat) (x y : Chk) (w : World) (hs : Sane s cs) (hcap : cs.length ≤ cap) (hm : cap ≤ maxLen) (hb : b < w.heap.size) (hc : ChksAt w b off cs) (hx : cs[i]? = some x) (hy : cs[k]? = some y) :
    Calls Tryd.prog 55 #[stV s (.slice (some ⟨b, off, none⟩) cs.length cap), .int .i64 i, .int .i64 k] w fun e w' => e = .returned (.bool (contraB s x y)) ∧ Below w.heap.size w w' := by
  have hsx := hs.all x (List.mem_of_getElem? hx)
  have hsy := hs.all y (List.mem_of_getElem? hy)
  obtain ⟨a0, a1, a2, a3, a4⟩ := hsx
  obtain ⟨b0, b1, b2, b3, b4⟩ := hsy
  have hil : i < cs.length := (List.getElem?_eq_some_iff.1 hx).1
  have hkl : k < cs.length := (List.getElem?_eq_some_iff.1 hy).1
  have hl12 := hs.len
  have i1 : (0 : Int) ≤ i := by omega
  have i2 : (i : Int) < cs.length := by omega
  have k1 : (0 : Int) ≤ k := by omega
  have k2 : (k : Int) < cs.length := by omega
  have HR : Hid (Frm w [(w.heap.size, (stBox s (.slice (some ⟨b, off, none⟩) cs.length cap)))] (w.alloc (stBox s (.slice (some ⟨b, off, none⟩) cs.length cap)))) := Lib.hid ((Frm.nil w).add _ rfl)
  have HC := Lib.hid hc
  have Hx := Lib.hid hx
  have Hy := Lib.hid hy
  have x0 := HR.out.cells (List.mem_cons_self ..)
  have hp := change_bounds hs.d0 hs.d1 a0 (show x.day ≤ 10000 by omega) b0 (show y.day ≤ 10000 by omega)
  have hfb := farI_bounds a0 (show x.day ≤ 10000 by omega) b0 (show y.day ≤ 10000 by omega)
  have HS := Lib.hid (show decide (s.dr * max (x.day - y.day) (y.day - x.day) < max (x.lo - y.hi) (y.lo - x.hi)) = contraB s x y from rfl)
  obtain ⟨p0, p1, p2⟩ := hc.below HR.out.b hb i x hx
  obtain ⟨q0, q1, q2⟩ := hc.below HR.out.b hb k y hy
  have sd0 := hs.d0
  have sd1 := hs.d1
  clear hc hx hy
  go_enter Tryd.func55, Tryd.ntmps55
  go_upto_region 1 with fail
  go_cut [7, 8] (fun s7 s8 wx => ∃ P Q : Nat, P ≠ Q ∧ s7 = .pointer (some ⟨P, 0, none⟩) ∧ s8 = .pointer (some ⟨Q, 0, none⟩) ∧ Frm w [(P, ckBox x), (Q, ckBox y), (w.heap.size, (stBox s (.slice (some ⟨b, off, none⟩) cs.length cap)))] wx)
  case first =>
    go_region_held3 (fun w' => (∀ o, w'.cell? ⟨w.heap.size, o, none⟩ = #[Value.int .i64 s.hl, .int .i64 s.hh, .int .i64 s.gl, .int .i64 s.gh, .int .i64 s.dr, .int .i64 s.rd, .int .i64 s.ea, .int .i64 s.sl, .slice (some ⟨b, off, none⟩) cs.length cap][o]?) ∧ w'.cell? ⟨b, off + i * 3, none⟩ = some (.int .i64 x.day) ∧ w'.cell? ⟨b, off + i * 3 + 1, none⟩ = some (.int .i64 x.lo) ∧ w'.cell? ⟨b, off + i * 3 + 2, none⟩ = some (.int .i64 x.hi) ∧ w'.cell? ⟨b, off + k * 3, none⟩ = some (.int .i64 y.day) ∧ w'.cell? ⟨b, off + k * 3 + 1, none⟩ = some (.int .i64 y.lo) ∧ w'.cell? ⟨b, off + k * 3 + 2, none⟩ = some (.int .i64 y.hi)) ((exact (fun hF : Frm w [(w.heap.size, (stBox s (.slice (some ⟨b, off, none⟩) cs.length cap)))] _ => ⟨hF.cells (List.mem_cons_self ..), (HC.out.below hF.b hb i x Hx.out).1, (HC.out.below hF.b hb i x Hx.out).2.1, (HC.out.below hF.b hb i x Hx.out).2.2, (HC.out.below hF.b hb k y Hy.out).1, (HC.out.below hF.b hb k y Hy.out).2.1, (HC.out.below hF.b hb k y Hy.out).2.2⟩) (by (repeat (with_reducible first | exact HR.out | apply Frm.drew | apply Frm.alloc))))) (fail)
    all_goals
      go_wp2_with fail
      go_meet
      refine ⟨_, _, ?_, rfl, rfl, ⟨?_, fun p hp => ?_⟩⟩
      · simp
      · (repeat (with_reducible first | exact HR.out.b | apply below_dr | apply below_al))
      · simp only [List.mem_cons, List.not_mem_nil, or_false] at hp
        rcases hp with rfl | rfl | rfl
        all_goals (repeat (with_reducible first | exact HR.out.h _ (List.mem_cons_self ..) | apply blk_dr | exact heap_new _ _ (by simp) | apply blk_alloc))
  case rest =>
    obtain ⟨P, Q, hPQ, rfl, rfl, hF⟩ := hcut
    have HF := Lib.hid hF
    have y0 := hF.cells (List.mem_cons_of_mem _ (List.mem_cons_of_mem _ (List.mem_cons_self ..)))
    have y1 := hF.cells (List.mem_cons_self ..)
    have y2 := hF.cells (List.mem_cons_of_mem _ (List.mem_cons_self ..))
    clear hF x0 p0 p1 p2 q0 q1 q2 HR HC
    have e1 : IntKind.i64.wrap (x.lo - y.hi) = x.lo - y.hi := IntWalk.i64_in _ (by omega)
    have e2 : IntKind.i64.wrap (y.lo - x.hi) = y.lo - x.hi := IntWalk.i64_in _ (by omega)
    unfold farI at hp hfb
    generalize hfv : max (x.day - y.day) (y.day - x.day) = fv at *
    have Hfv := Lib.hid hfv
    clear hfv
    have e3 : IntKind.i64.wrap (s.dr * fv) = s.dr * fv := IntWalk.i64_in _ (by omega)
    have HFa : Hid (∀ W, Calls Tryd.prog 72 #[.int .i64 x.day, .int .i64 y.day] W fun e w' => e = .returned (.int .i64 fv) ∧ W = w') := Lib.hid (fun W => by rw [← Hfv.out]; exact far_any _ _ W (by omega) (by omega) (by omega) (by omega))
    go_wp2_with fail
    go_region_held3 (fun w' => (∀ o, w'.cell? ⟨w.heap.size, o, none⟩ = #[Value.int .i64 s.hl, .int .i64 s.hh, .int .i64 s.gl, .int .i64 s.gh, .int .i64 s.dr, .int .i64 s.rd, .int .i64 s.ea, .int .i64 s.sl, .slice (some ⟨b, off, none⟩) cs.length cap][o]?) ∧ (∀ o, w'.cell? ⟨P, o, none⟩ = #[Value.int .i64 x.day, .int .i64 x.lo, .int .i64 x.hi][o]?) ∧ (∀ o, w'.cell? ⟨Q, o, none⟩ = #[Value.int .i64 y.day, .int .i64 y.lo, .int .i64 y.hi][o]?)) ((first | go_keep | assumption | exact ⟨y0, y1, y2⟩)) ((go_at_call 72; refine (HFa.out _).mono ?_; rintro e w' ⟨rfl, rfl⟩))
    all_goals
      go_wp2_with fail
      go_ret
      exact ⟨ret_bool HS.out, HF.out.b.drew⟩

/-- What a search for the first two comparisons that contradict each other returns. -/
def ClRet (s : Stn) (cs : List Chk) (w : World) (e : Ending) (w' : World) : Prop :=
  Below w.heap.size w w' ∧ ((Agreed s cs ∧ e = .returned (.tuple #[.int .i64 0, .int .i64 0, .bool false])) ∨ ∃ i j : Nat, First s cs i j ∧ j < cs.length ∧ e = .returned (.tuple #[.int .i64 i, .int .i64 j, .bool true]))
theorem contra_lt {s : Stn} {cs : List Chk} {i j : Nat} (h : Contra s cs i j) : i < cs.length ∧ j < cs.length := by
  obtain ⟨a, b, ha, hb, _⟩ := h
  exact ⟨(List.getElem?_eq_some_iff.1 ha).1, (List.getElem?_eq_some_iff.1 hb).1⟩

set_option maxHeartbeats 1000000 in
set_option maxRecDepth 100000 in
theorem rClash_some (s : Stn) (cs : List Chk) (b off cap : Nat) (w : World) (hs : Sane s cs) (hcap : cs.length ≤ cap) (hm : cap ≤ maxLen) (hb : b < w.heap.size) (hc : ChksAt w b off cs) :
    Calls Tryd.prog 35 #[stV s (.slice (some ⟨b, off, none⟩) cs.length cap)] w (ClRet s cs w) := by
  have hl12 := hs.len
  have HR : Hid (Frm w [(w.heap.size, (stBox s (.slice (some ⟨b, off, none⟩) cs.length cap)))] (w.alloc (stBox s (.slice (some ⟨b, off, none⟩) cs.length cap)))) := Lib.hid ((Frm.nil w).add _ rfl)
  have HC := Lib.hid hc
  clear hc
  go_enter Tryd.func35, Tryd.ntmps35
  go_wp2_with fail
  go_loopw [5, 6] (fun i _ wr => ∃ n : Nat, n ≤ cs.length ∧ i = .int .i64 n ∧ (∀ i' j', i' < n → i' < j' → ¬ Contra s cs i' j') ∧ Frm w [(w.heap.size, (stBox s (.slice (some ⟨b, off, none⟩) cs.length cap)))] wr) (fun i _ _ => cs.length - (intOf i).toNat)
  case atStart => exact ⟨0, Nat.zero_le _, rfl, fun _ _ h => absurd h (Nat.not_lt_zero _), HR.out⟩
  case round =>
    obtain ⟨n, hn, rfl, hno, hF⟩ := hrel
    obtain ⟨wo, rfl⟩ : ∃ wo : World, wo = wr := ⟨_, rfl⟩
    have HN := Lib.hid hno
    have HF := Lib.hid hF
    have y0 := hF.cells (List.mem_cons_self ..)
    clear hno hF
    by_cases hlt : n < cs.length
    · go_wp2_with fail
      go_loopw [6] (fun k wr => ∃ m : Nat, m ≤ cs.length ∧ n < m ∧ k = .int .i64 m ∧ (∀ j', n < j' → j' < m → ¬ Contra s cs n j') ∧ Frm w [(w.heap.size, (stBox s (.slice (some ⟨b, off, none⟩) cs.length cap)))] wr) (fun k _ => cs.length - (intOf k).toNat)
      case atStart => exact ⟨n + 1, by omega, by omega, by go_num, fun j' h1 h2 => absurd h1 (by omega), HF.out⟩
      case round =>
        obtain ⟨m, hm1, hnm, rfl, hno2, hF2⟩ := hrel
        have HN2 := Lib.hid hno2
        have HF2 := Lib.hid hF2
        have z0 := hF2.cells (List.mem_cons_self ..)
        clear hno2 hF2
        by_cases hlm : m < cs.length
        · have hx := List.getElem?_eq_getElem hlt
          have hy := List.getElem?_eq_getElem hlm
          have Hx := Lib.hid hx
          have Hy := Lib.hid hy
          generalize cs[n] = x at *
          generalize cs[m] = y at *
          clear hx hy
          have HQ := Lib.hid (rContra_any s cs b off cap n m x y wr hs hcap hm (Nat.lt_of_lt_of_le hb HF2.out.size) (HC.out.below HF2.out.b hb) Hx.out Hy.out)
          cases hq : contraB s x y
          · have Hq := Lib.hid hq
            rw [hq] at HQ
            clear hq
            go_wp2_with (go_at_call 55; refine HQ.out.mono ?_; rintro e w1 ⟨rfl, hb1⟩)
            go_roundw
            case rel => exact ⟨m + 1, by omega, by omega, by go_num, fun j' h1 h2 h3 => by
              rcases Nat.lt_or_ge j' m with h4 | h4
              · exact HN2.out j' h1 h4 h3
              · obtain rfl : j' = m := by omega
                obtain ⟨a', b', ha', hb', hcc⟩ := h3
                cases ha'.symm.trans Hx.out
                cases hb'.symm.trans Hy.out
                exact absurd (hcc.symm.trans Hq.out) (by simp), HF2.out.below hb1⟩
            case measure => simp [intOf]; omega
          · have Hq := Lib.hid hq
            rw [hq] at HQ
            clear hq
            go_wp2_with (go_at_call 55; refine HQ.out.mono ?_; rintro e w1 ⟨rfl, hb1⟩)
            go_ret3
            refine ⟨(HF2.out.below hb1).b, .inr ⟨n, m, ⟨hnm, ⟨x, y, Hx.out, Hy.out, Hq.out⟩, fun i' j' hij hcon => ?_⟩, hlm, rfl⟩⟩
            rcases Nat.lt_trichotomy i' n with h | h | h
            · exact absurd hcon (HN.out i' j' h hij)
            · subst h
              rcases Nat.lt_or_ge j' m with h4 | h4
              · exact absurd hcon (HN2.out j' hij h4)
              · exact .inr ⟨rfl, h4⟩
            · exact .inl h
        · go_wp2_with fail
          go_roundw
          case rel => exact ⟨n + 1, by omega, by go_num, fun i' j' h1 h2 h3 => by
            rcases Nat.lt_or_ge i' n with h4 | h4
            · exact HN.out i' j' h4 h2 h3
            · obtain rfl : i' = n := by omega
              exact HN2.out j' h2 (by have := (contra_lt h3).2; omega) h3, HF2.out⟩
          case measure => simp [intOf]; omega
    · go_wp2_with fail
      go_ret3
      exact ⟨HF.out.b, .inl ⟨fun i' j' hij h => HN.out i' j' (by have := (contra_lt h).1; omega) hij h, rfl⟩⟩
end Go.Proofs.YtffgcphmakfikaaDoor
