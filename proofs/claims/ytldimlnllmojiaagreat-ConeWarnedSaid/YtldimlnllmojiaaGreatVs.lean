/- Part of a claim on cone. -/
import Derived.Test.YtldimlnllmojiaaGreatVr
set_option linter.unusedVariables false
set_option linter.unusedSimpArgs false
namespace Go.Proofs.YtldimlnllmojiaaGreat
open Go.RowKit
open Go.Shelf
open Go.Maps
def Ints (w : World) (v : Value) (zs : List Int) : Prop :=
  ∃ A cap, v = .slice A zs.length cap ∧ zs.length ≤ cap ∧ cap ≤ maxLen ∧ (zs = [] ∨ ∃ b off, A = some ⟨b, off, none⟩ ∧ b < w.heap.size ∧ ∀ (i : Nat) (z : Int), zs[i]? = some z → w.cell? ⟨b, off + i, none⟩ = some (.int .i64 z))
theorem Ints.below {w w' : World} {v : Value} {zs : List Int} (h : Ints w v zs) (hb : Below w.heap.size w w') : Ints w' v zs := by
  obtain ⟨A, cap, hv, hl, hm, h⟩ := h
  refine ⟨A, cap, hv, hl, hm, ?_⟩
  rcases h with h | ⟨b, off, hA, hlt, hc⟩
  · exact .inl h
  · exact .inr ⟨b, off, hA, Nat.lt_of_lt_of_le hlt hb.size, fun i z hi => (hb.cell (p := ⟨b, _, none⟩) hlt).trans (hc i z hi)⟩
theorem ints_cells {w : World} {A : Option Addr} {c : Nat} {zs : List Int} {j : Nat} {x : Int} (h : Ints w (.slice A zs.length c) zs) (hx : zs[j]? = some x) :
    ∃ b off, A = some ⟨b, off, none⟩ ∧ zs.length ≤ c ∧ c ≤ maxLen ∧ w.cell? ⟨b, off + j, none⟩ = some (.int .i64 x) := by
  obtain ⟨A', cap, hv, hl, hm, h⟩ := h
  obtain ⟨rfl, -, rfl⟩ : A = A' ∧ zs.length = zs.length ∧ c = cap := by simpa using hv
  rcases h with rfl | ⟨b, off, hA, hlt, hc⟩
  · simp at hx
  · exact ⟨b, off, hA, hl, hm, hc j x hx⟩
def ev (zs : List Int) (i : Nat) : Int := zs.getD i 0
theorem ev_some {zs : List Int} {i : Nat} (h : i < zs.length) : zs[i]? = some (ev zs i) := by
  unfold ev
  rw [List.getD_eq_getElem?_getD, List.getElem?_eq_getElem h]
  rfl
structure Sane (m : Wn) (rs : List Rep) (ls : List Lnk) (ps : List Prt) : Prop where
  rl : rs.length ≤ 9
  ll : ls.length ≤ 8
  pl : ps.length ≤ 4
  h0 : 1 ≤ m.hold
  h1 : m.hold ≤ 2880
  n0 : 1 ≤ m.n
  n1 : m.n ≤ 6
  d0 : 0 ≤ m.dawn
  d1 : m.dawn ≤ m.dusk
  d2 : m.dusk ≤ 1440
  rep : ∀ x ∈ rs, 0 ≤ x.tk ∧ x.tk ≤ 10080 ∧ 0 ≤ x.pr ∧ x.pr ≤ 99999 ∧ 0 ≤ x.dlo ∧ x.dlo ≤ x.dhi ∧ x.dhi ≤ 2880 ∧ 0 ≤ x.ur ∧ x.ur ≤ 2880 ∧ 0 ≤ x.co ∧ x.co ≤ 10000
  prt : ∀ x ∈ ps, 0 ≤ x.olo ∧ x.olo ≤ x.ohi ∧ x.ohi ≤ 2880 ∧ x.ohi - x.olo ≤ 300 ∧ 0 ≤ x.dy ∧ x.dy ≤ 50000 ∧ 0 ≤ x.nt ∧ x.nt ≤ 50000
  lnk : ∀ x ∈ ls, 1 ≤ x.df ∧ x.df ≤ 99999
theorem sane_of {m : Wn} {rs : List Rep} {ls : List Lnk} {ps : List Prt} (h : watchB m rs ls ps = true) : Sane m rs ls ps := by
  unfold watchB ruleB at h
  simp only [Bool.and_eq_true, List.all_eq_true, betw, decide_eq_true_eq] at h
  obtain ⟨⟨⟨⟨⟨⟨⟨⟨⟨⟨⟨⟨a1, a2⟩, a3⟩, a4⟩, a5⟩, a6⟩, a7⟩, a8⟩, a9⟩, a10⟩, b1⟩, b2⟩, b3⟩ := h
  refine ⟨by omega, by omega, by omega, by omega, by omega, by omega, by omega, by omega, by omega, by omega, fun x hx => ?_, fun x hx => ?_, fun x hx => ?_⟩
  · have := b1 x hx
    unfold repB spanB betw at this
    simp only [Bool.and_eq_true, decide_eq_true_eq] at this
    omega
  · have := b3 x hx
    unfold prtB spanB betw at this
    simp only [Bool.and_eq_true, decide_eq_true_eq] at this
    omega
  · have := b2 x hx
    unfold lnkB betw at this
    simp only [Bool.and_eq_true, decide_eq_true_eq] at this
    omega
set_option maxHeartbeats 1000000 in
theorem played1_any (E : Option Addr) (ec : Nat) (zs : List Int) (D i : Nat) (w : World) (hz : Ints w (.slice E zs.length ec) zs) (hD : w.heap[D]? = some (.cells #[Value.slice E zs.length ec] 36)) (hi : i < zs.length) :
    Calls Tryz.prog 93 #[.int .i64 i, .pointer (some ⟨D, 0, none⟩)] w fun e w' => e = .returned (.int .i64 (ev zs i)) ∧ Below w.heap.size w w' := by
  obtain ⟨b, off, rfl, h1, h2, hc⟩ := ints_cells hz (ev_some hi)
  unfold maxLen at h2
  have x0 := (boxCells hD).1
  clear hz hD
  generalize ev zs i = z at *
  go_enter Tryz.func93, Tryz.ntmps93
  go_wp2
  go_ret
  exact ⟨rfl, Below.refl _ _⟩
set_option maxHeartbeats 2000000 in
set_option maxRecDepth 100000 in
theorem played_any (m : Wn) (A1 A2 A3 : Option Addr) (rs : List Rep) (ls : List Lnk) (c1 c2 p3 c3 M N : Nat) (E : Option Addr) (ec : Nat) (zs : List Int) (w : World) (h1 : Reps w (.slice A1 rs.length c1) rs) (hM : AlMapN N w M (fP m ls rs (pairsTo rs.length rs.length))) (hlen : rs.length ≤ 12) (hg : ∀ x ∈ rs, 0 ≤ x.tk ∧ x.tk ≤ 100000) (hho : 0 ≤ m.hold ∧ m.hold ≤ 100000) (hz : Ints w (.slice E zs.length ec) zs) (hzl : zs.length = rs.length) (hzb : ∀ i, i < rs.length → 0 ≤ ev zs i ∧ ev zs i ≤ 100000) :
    Calls Tryz.prog 65 #[lookV m (.slice A1 rs.length c1) (.slice A2 ls.length c2) (.slice A3 p3 c3) (.map (some M)), (.slice E zs.length ec)] w fun e w' => ∃ A c, e = .returned (.slice A (siL m ls rs (ev zs)).length c) ∧ Sps w' (.slice A (siL m ls rs (ev zs)).length c) (siL m ls rs (ev zs)) ∧ (∀ b off, A = some ⟨b, off, none⟩ → w.heap.size ≤ b ∧ b < w'.heap.size) ∧ Below w.heap.size w w' := by
  have HR := Lib.hid (((Frm.nil w).add (k := w.heap.size) (lookBox m (.slice A1 rs.length c1) (.slice A2 ls.length c2) (.slice A3 p3 c3) (.map (some M))) rfl).add (k := w.heap.size + 1) (.cells #[Value.slice E zs.length ec] 36) (by simp))
  have hF := Lib.hid (sights_any m A1 A2 A3 rs ls c1 c2 p3 c3 M N 93 #[] #[.pointer (some ⟨w.heap.size + 1, 0, none⟩)] (ev zs) _ (Rws.below h1 HR.out.b (Nat.le_refl _)) (hM.below HR.out.b hM.lt) hlen hg hho (enters_of Tryz.func93 (by kernel_rfl) rfl) hzb
    (fun i V hi hV => by
      have := played1_any E ec zs (w.heap.size + 1) i V ((hz.below HR.out.b).below hV) ((hV.block _ (HR.out.lt mZ)).trans (HR.out.h _ mZ)) (by omega)
      simpa using this))
  have x0 := HR.out.cells mZ
  have x1 := HR.out.cells (mS mZ)
  clear h1 hM hg hz hzb hzl
  go_enter Tryz.func65, Tryz.ntmps65
  go_wp2_with fail
  go_at_call 92
  refine hF.out.mono ?_
  rintro e W3 ⟨A, c, rfl, hS, hA, hb3⟩
  have hz2 := HR.out.size
  go_wp2_with fail
  go_ret
  exact ⟨A, c, rfl, hS, fun b off e => by have := hA b off e; simp at this; omega, (HR.out.below hb3).b⟩
def delB (rs : List Rep) (zs : List Int) : Bool := decide (zs.length = rs.length) && (List.range rs.length).all fun i => betw (ev zs i) (repAt rs i).dlo (repAt rs i).dhi
theorem del_iff {rs : List Rep} {zs : List Int} : delB rs zs = true ↔ zs.length = rs.length ∧ ∀ i, i < rs.length → (repAt rs i).dlo ≤ ev zs i ∧ ev zs i ≤ (repAt rs i).dhi := by
  unfold delB betw
  simp only [Bool.and_eq_true, List.all_eq_true, List.mem_range, decide_eq_true_eq]
set_option maxHeartbeats 4000000 in
set_option maxRecDepth 100000 in
theorem soundDelays_any (m : Wn) (A1 A2 A3 : Option Addr) (rs : List Rep) (ls : List Lnk) (c1 c2 p3 c3 : Nat) (E : Option Addr) (ec : Nat) (zs : List Int) (w : World) (h1 : Reps w (.slice A1 rs.length c1) rs) (hz : Ints w (.slice E zs.length ec) zs) (hlen : rs.length ≤ 1000) :
    Calls Tryz.prog 64 #[wtV m (.slice A1 rs.length c1) (.slice A2 ls.length c2) (.slice A3 p3 c3), (.slice E zs.length ec)] w fun e w' => e = .returned (.bool (delB rs zs)) ∧ Below w.heap.size w w' := by
  have HC := Lib.hid h1
  have HZ := Lib.hid hz
  clear h1 hz
  have HR := Lib.hid ((Frm.nil w).add (.cells #[.int .i64 m.n, (.slice A1 rs.length c1), (.slice A2 ls.length c2), (.slice A3 p3 c3), .int .i64 m.fall, .int .i64 m.win, .int .i64 m.hold, .int .i64 m.dawn, .int .i64 m.dusk] 26) rfl)
  have x0 := HR.out.cells mZ
  by_cases hl : zs.length = rs.length
  rotate_left
  · have HN := Lib.hid (show delB rs zs = false by simp [delB, hl])
    have hl2 : ¬ (zs.length : Int) = rs.length := by omega
    clear hl
    go_enter Tryz.func64, Tryz.ntmps64
    go_wp2_with fail
    go_ret
    exact ⟨ret_bool HN.out.symm, Frm.b (w := w) (by (repeat (with_reducible first | exact HR.out | apply Frm.drew | apply Frm.alloc | apply Frm.drewN)))⟩
  have HL := Lib.hid hl
  rw [hl]
  clear hl
  go_enter Tryz.func64, Tryz.ntmps64
  go_wp2_with fail
  go_loopw [5, 6, 16] (fun _ _ i wr => ∃ n : Nat, n ≤ rs.length ∧ i = .int .i64 n ∧ (∀ j, j < n → (repAt rs j).dlo ≤ ev zs j ∧ ev zs j ≤ (repAt rs j).dhi) ∧ Frm w [(w.heap.size, (.cells #[.int .i64 m.n, (.slice A1 rs.length c1), (.slice A2 ls.length c2), (.slice A3 p3 c3), .int .i64 m.fall, .int .i64 m.win, .int .i64 m.hold, .int .i64 m.dawn, .int .i64 m.dusk] 26))] wr) (fun _ _ i _ => rs.length - (intOf i).toNat)
  case atStart => exact ⟨0, Nat.zero_le _, rfl, fun j h => absurd h (Nat.not_lt_zero _), (by (repeat (with_reducible first | exact HR.out | apply Frm.drew | apply Frm.alloc | apply Frm.drewN)))⟩
  case round =>
    obtain ⟨n, hn, rfl, hall, hF⟩ := hrel
    clear HR x0
    have HR := Lib.hid hF
    have HA := Lib.hid hall
    have HCr := Lib.hid (Rws.below HC.out HR.out.b (Nat.le_refl _))
    have HZr := Lib.hid (HZ.out.below HR.out.b)
    clear hF hall
    have x0 := HR.out.cells mZ
    by_cases hnl : n < rs.length
    · obtain ⟨x, hx⟩ : ∃ x, rs[n]? = some x := ⟨_, List.getElem?_eq_getElem hnl⟩
      obtain ⟨b, off, hA, hcap, hmx, c00, c10, c20, c30, c40, c50, c60⟩ := rep_cells HCr.out hx
      obtain ⟨zb, zo, hE, hzc, hzm, z0⟩ := ints_cells HZr.out (ev_some (zs := zs) (i := n) (by rw [HL.out]; exact hnl))
      unfold maxLen at hmx hzm
      subst hA hE
      rw [HL.out] at hzc
      have HX := Lib.hid (repAt_some hx)
      obtain ⟨z, hz⟩ : ∃ z, ev zs n = z := ⟨_, rfl⟩
      rw [hz] at z0
      have HZN := Lib.hid hz
      clear hz hx
      go_upto_region 6 with fail
      have HRq := Lib.hid (HR.out.add (repBox x) rfl)
      clear HR x0 c00 c10 c20 c30 c40 c50 c60 z0
      have HR := HRq
      clear HRq
      have HSS : Hid (∀ w', Frm w [(wr.heap.size, repBox x), (w.heap.size, (.cells #[.int .i64 m.n, (.slice (some ⟨b, off, none⟩) rs.length c1), (.slice A2 ls.length c2), (.slice A3 p3 c3), .int .i64 m.fall, .int .i64 m.win, .int .i64 m.hold, .int .i64 m.dawn, .int .i64 m.dusk] 26))] w' → (∀ o, w'.cell? ⟨wr.heap.size, o, none⟩ = #[Value.int .i64 x.st, .int .i64 x.tk, .int .i64 x.pr, .int .i64 x.dlo, .int .i64 x.dhi, .int .i64 x.ur, .int .i64 x.co][o]?) ∧ w'.cell? ⟨zb, zo + n, none⟩ = some (.int .i64 z)) := Lib.hid fun w' hF => ⟨hF.cells mZ, by
        obtain ⟨b', off', hA, _, _, q⟩ := ints_cells (HZ.out.below hF.b) (ev_some (zs := zs) (i := n) (by rw [HL.out]; exact hnl))
        cases hA
        rw [HZN.out] at q
        exact q⟩
      cases hq : betw z x.dlo x.dhi
      · have HQ := Lib.hid hq
        have HN := Lib.hid (show delB rs zs = false by
          cases hd : delB rs zs
          · rfl
          · have h1 := (del_iff.1 hd).2 n hnl
            rw [HX.out, HZN.out] at h1
            unfold betw at hq
            simp [h1] at hq)
        go_region_held3 (fun w' => (∀ o, w'.cell? ⟨wr.heap.size, o, none⟩ = #[Value.int .i64 x.st, .int .i64 x.tk, .int .i64 x.pr, .int .i64 x.dlo, .int .i64 x.dhi, .int .i64 x.ur, .int .i64 x.co][o]?) ∧ w'.cell? ⟨zb, zo + n, none⟩ = some (.int .i64 z)) ((exact HSS.out _ (by (repeat (with_reducible first | exact HR.out | apply Frm.drew | apply Frm.alloc | apply Frm.drewN))))) ((go_at_call 72; refine (between_any _ _ _ _).mono ?_; rintro e wq ⟨rfl, rfl⟩))
        all_goals
          go_wp2_with fail
          go_ret
          exact ⟨ret_bool HN.out.symm, Frm.b (w := w) (by (repeat (with_reducible first | exact HR.out | apply Frm.drew | apply Frm.alloc | apply Frm.drewN)))⟩
      · have HQ : Hid (x.dlo ≤ z ∧ z ≤ x.dhi) := Lib.hid (by unfold betw at hq; simpa using hq)
        go_region_held3 (fun w' => (∀ o, w'.cell? ⟨wr.heap.size, o, none⟩ = #[Value.int .i64 x.st, .int .i64 x.tk, .int .i64 x.pr, .int .i64 x.dlo, .int .i64 x.dhi, .int .i64 x.ur, .int .i64 x.co][o]?) ∧ w'.cell? ⟨zb, zo + n, none⟩ = some (.int .i64 z)) ((exact HSS.out _ (by (repeat (with_reducible first | exact HR.out | apply Frm.drew | apply Frm.alloc | apply Frm.drewN))))) ((go_at_call 72; refine (between_any _ _ _ _).mono ?_; rintro e wq ⟨rfl, rfl⟩))
        all_goals
          go_wp2_with fail
          go_roundw
          case rel => exact ⟨n + 1, by omega, by go_num, fun j hj => by
            rcases Nat.lt_or_ge j n with h1 | h1
            · exact HA.out j h1
            · obtain rfl : j = n := by omega
              rw [HX.out, HZN.out]
              exact HQ.out, Frm.less (by (repeat (with_reducible first | exact HR.out | apply Frm.drew | apply Frm.alloc | apply Frm.drewN))) (fun p hp => by simp only [List.mem_cons, List.not_mem_nil, or_false] at hp; subst hp; simp)⟩
          case measure => simp [intOf]; omega
    · obtain rfl : n = rs.length := by omega
      have HT := Lib.hid (show delB rs zs = true from del_iff.2 ⟨HL.out, HA.out⟩)
      go_wp2_with fail
      go_ret
      exact ⟨ret_bool HT.out.symm, Frm.b (w := w) (by (repeat (with_reducible first | exact HR.out | apply Frm.drew | apply Frm.alloc | apply Frm.drewN)))⟩
end Go.Proofs.YtldimlnllmojiaaGreat
