/- The first two comparisons that contradict each other, by the program. -/
import Derived.Test.YtffgcphmakfikaaDoorClash
set_option linter.unusedVariables false
set_option linter.unusedSimpArgs false
namespace Go.Proofs.YtffgcphmakfikaaDoor
open Go.RowKit
theorem First.before {s : Stn} {cs : List Chk} {i0 j0 : Nat} (h : First s cs i0 j0) {i j : Nat} (hij : i < j) (hb : i < i0 ∨ (i = i0 ∧ j < j0)) {a b : Chk} (ha : cs[i]? = some a) (hb' : cs[j]? = some b) : contraB s a b = false := by
  cases hc : contraB s a b
  · rfl
  · have := h.2.2 i j hij ⟨a, b, ha, hb', hc⟩
    omega
theorem First.here {s : Stn} {cs : List Chk} {i0 j0 : Nat} (h : First s cs i0 j0) {a b : Chk} (ha : cs[i0]? = some a) (hb' : cs[j0]? = some b) : contraB s a b = true := by
  obtain ⟨a', b', h1, h2, h3⟩ := h.2.1
  cases ha.symm.trans h1; cases hb'.symm.trans h2
  exact h3

set_option maxHeartbeats 1600000 in
set_option maxRecDepth 100000 in
theorem clash_yes (s : Stn) (cs : List Chk) (m : Value) (b off cap : Nat) (w : World) (hs : Sane s cs) (hcap : cs.length ≤ cap) (hm : cap ≤ maxLen) (hb : b < w.heap.size) (hc : ChksAt w b off cs) (i0 j0 : Nat) (hf : First s cs i0 j0) (hj0 : j0 < cs.length) :
    Calls Tryd.prog 46 #[vwV s (.slice (some ⟨b, off, none⟩) cs.length cap) m] w fun e w' => e = .returned (.tuple #[.int .i64 i0, .int .i64 j0, .bool true]) ∧ Below w.heap.size w w' := by
  unfold maxLen at hm
  have hij : i0 < j0 := hf.1
  have h12 := hs.len
  go_enter Tryd.func46, Tryd.ntmps46
  go_wp2_with fail
  go_step3
  go_wp2_with fail
  go_step3
  go_wp2_with fail
  go_loopg [5, 6, 7, 16] cs.length (fun g a1 a2 a3 k wr => a1 = .int .i64 0 ∧ a2 = .int .i64 0 ∧ a3 = .bool false ∧ ∃ n : Nat, n + g = cs.length ∧ n ≤ i0 ∧ k = .int .i64 n ∧ Below (w.heap.size + 1) (w.alloc (vwBox s (.slice (some ⟨b, off, none⟩) cs.length cap) m)) wr)
  case atStart => exact ⟨rfl, rfl, rfl, 0, by omega, Nat.zero_le _, rfl, Below.refl _ _⟩
  case round =>
    obtain ⟨rfl, rfl, rfl, n, hn, hni, rfl, hB⟩ := hrel
    obtain ⟨wo, rfl⟩ : ∃ wo : World, wo = wr := ⟨_, rfl⟩
    have H0 : Below w.heap.size w wo := ((Below.refl _ _).alloc (Nat.le_refl _) _).trans (hB.mono (by omega))
    have hz : w.heap.size < wo.heap.size := by have := hB.size; simp at this; omega
    have hbox : ∀ o, wo.cell? ⟨w.heap.size, o, none⟩ = (w.alloc (vwBox s (.slice (some ⟨b, off, none⟩) cs.length cap) m)).cell? ⟨w.heap.size, o, none⟩ := fun o => hB.cell (p := ⟨w.heap.size, o, none⟩) (by show w.heap.size < _; omega)
    have hc' := hc.below H0 hb
    clear hc
    cases gk with
    | zero =>
      exfalso; omega
    | succ g1 =>
      have hlt : n < cs.length := by omega
      obtain ⟨c0, c1, c2⟩ := hc' n cs[n] (List.getElem?_eq_getElem hlt)
      have Hcn := Lib.hid (List.getElem?_eq_getElem hlt)
      have hsa := hs.all cs[n] (List.getElem_mem hlt)
      generalize cs[n] = ca at *
      have hcp : n + 1 < cap := by omega
      by_cases hni0 : n = i0
      · have hni1 : i0 ≤ n := by omega
        clear hni0
        go_wp2_with fail
        go_loopg [5, 6, 7, 28] (cs.length - n - 1) (fun g a1 a2 a3 k wx => a1 = .int .i64 0 ∧ a2 = .int .i64 0 ∧ a3 = .bool false ∧ ∃ l : Nat, l + g = cs.length - n - 1 ∧ n + 1 + l ≤ j0 ∧ k = .int .i64 l ∧ Below (wo.heap.size + 1) (wo.alloc (ckBox ca)) wx)
        case atStart => exact ⟨rfl, rfl, rfl, 0, by omega, by omega, rfl, Below.refl _ _⟩
        case round =>
          obtain ⟨rfl, rfl, rfl, l, hl, hlj, rfl, hB2⟩ := hrel
          have hz2 : wo.heap.size < wr.heap.size := by have := hB2.size; simp at this; omega
          have hz3 : w.heap.size < wr.heap.size := by omega
          have HB3 : Below (w.heap.size + 1) (w.alloc (vwBox s (.slice (some ⟨b, off, none⟩) cs.length cap) m)) wr := (hB.alloc (by omega) _).trans (hB2.mono (by omega))
          have hbox2 : ∀ o, wr.cell? ⟨w.heap.size, o, none⟩ = (w.alloc (vwBox s (.slice (some ⟨b, off, none⟩) cs.length cap) m)).cell? ⟨w.heap.size, o, none⟩ := fun o => HB3.cell (p := ⟨w.heap.size, o, none⟩) (by show w.heap.size < _; omega)
          have hboxa : ∀ o, wr.cell? ⟨wo.heap.size, o, none⟩ = (wo.alloc (ckBox ca)).cell? ⟨wo.heap.size, o, none⟩ := fun o => hB2.cell (p := ⟨wo.heap.size, o, none⟩) (by show wo.heap.size < _; omega)
          cases gk with
          | zero =>
            exfalso; omega
          | succ gk =>
            have hjl : n + 1 + l < cs.length := by omega
            obtain ⟨d0, d1, d2⟩ := hc' (n + 1 + l) cs[n + 1 + l] (List.getElem?_eq_getElem hjl)
            have hb2 : ∀ o, wr.cell? ⟨b, o, none⟩ = wo.cell? ⟨b, o, none⟩ := fun o => (hB2.cell (p := ⟨b, o, none⟩) (by show b < _; omega)).trans (World.cell?_of_block (Below.heap_alloc _ _ _ (by show b < _; omega)))
            replace d0 := (hb2 _).trans d0; replace d1 := (hb2 _).trans d1; replace d2 := (hb2 _).trans d2
            rw [show off + (n + 1 + l) * 3 = off + (n + 1) * 3 + l * 3 by omega] at d0 d1 d2
            have hsc := hs.all cs[n + 1 + l] (List.getElem_mem hjl)
            by_cases hlj0 : n + 1 + l = j0
            · have hyes := hf.here (by rw [← show n = i0 by omega]; exact Hcn.out) (by rw [← hlj0]; exact List.getElem?_eq_getElem hjl)
              have Hi := Lib.hid (show n = i0 by omega)
              have Hj := Lib.hid hlj0
              generalize cs[n + 1 + l] = cc at *
              clear hb2 hc' hlj0
              go_wp2_with (go_at_call 70; refine (contradict_any s _ m ca cc _ hs.d0 hs.d1 hsa hsc).mono ?_; rintro e w1 ⟨rfl, hb1⟩)
              try rw [Exit.noGoto_ret]
              go_ret3
              exact ⟨by rw [← Hi.out, ← Hj.out]; go_num, (((Below.refl _ _).alloc (Nat.le_refl _) _).trans (HB3.mono (by omega))).alloc (by omega) _ |>.trans (hb1.mono (by simp; omega))⟩
            · have hno := hf.before (show n < n + 1 + l by omega) (.inr ⟨by omega, show n + 1 + l < j0 by omega⟩) Hcn.out (List.getElem?_eq_getElem hjl)
              generalize cs[n + 1 + l] = cc at *
              clear hb2 hc'
              go_wp2_with (go_at_call 70; refine (contradict_any s _ m ca cc _ hs.d0 hs.d1 hsa hsc).mono ?_; rintro e w1 ⟨rfl, hb1⟩)
              go_roundg gk
              case rel => exact ⟨rfl, rfl, rfl, l + 1, by omega, by omega, by go_num, (hB2.alloc (by omega) _).trans (hb1.mono (by simp; omega))⟩
              case measure => omega
      · go_wp2_with fail
        go_loopg [5, 6, 7, 28] (cs.length - n - 1) (fun g a1 a2 a3 k wx => a1 = .int .i64 0 ∧ a2 = .int .i64 0 ∧ a3 = .bool false ∧ ∃ l : Nat, l + g = cs.length - n - 1 ∧ k = .int .i64 l ∧ Below (wo.heap.size + 1) (wo.alloc (ckBox ca)) wx)
        case atStart => exact ⟨rfl, rfl, rfl, 0, by omega, rfl, Below.refl _ _⟩
        case round =>
          obtain ⟨rfl, rfl, rfl, l, hl, rfl, hB2⟩ := hrel
          have hz2 : wo.heap.size < wr.heap.size := by have := hB2.size; simp at this; omega
          have hz3 : w.heap.size < wr.heap.size := by omega
          have HB3 : Below (w.heap.size + 1) (w.alloc (vwBox s (.slice (some ⟨b, off, none⟩) cs.length cap) m)) wr := (hB.alloc (by omega) _).trans (hB2.mono (by omega))
          have hbox2 : ∀ o, wr.cell? ⟨w.heap.size, o, none⟩ = (w.alloc (vwBox s (.slice (some ⟨b, off, none⟩) cs.length cap) m)).cell? ⟨w.heap.size, o, none⟩ := fun o => HB3.cell (p := ⟨w.heap.size, o, none⟩) (by show w.heap.size < _; omega)
          have hboxa : ∀ o, wr.cell? ⟨wo.heap.size, o, none⟩ = (wo.alloc (ckBox ca)).cell? ⟨wo.heap.size, o, none⟩ := fun o => hB2.cell (p := ⟨wo.heap.size, o, none⟩) (by show wo.heap.size < _; omega)
          cases gk with
          | zero =>
            have hll : ¬ ((l : Int) < ((cs.length - (n + 1) : Nat) : Int)) := by omega
            go_wp2_with fail
            go_roundg g1
            case rel => exact ⟨rfl, rfl, rfl, n + 1, by omega, by omega, by go_num, HB3⟩
            case measure => omega
          | succ gk =>
            have hjl : n + 1 + l < cs.length := by omega
            obtain ⟨d0, d1, d2⟩ := hc' (n + 1 + l) cs[n + 1 + l] (List.getElem?_eq_getElem hjl)
            have hb2 : ∀ o, wr.cell? ⟨b, o, none⟩ = wo.cell? ⟨b, o, none⟩ := fun o => (hB2.cell (p := ⟨b, o, none⟩) (by show b < _; omega)).trans (World.cell?_of_block (Below.heap_alloc _ _ _ (by show b < _; omega)))
            replace d0 := (hb2 _).trans d0; replace d1 := (hb2 _).trans d1; replace d2 := (hb2 _).trans d2
            rw [show off + (n + 1 + l) * 3 = off + (n + 1) * 3 + l * 3 by omega] at d0 d1 d2
            have hsc := hs.all cs[n + 1 + l] (List.getElem_mem hjl)
            have hno := hf.before (show n < n + 1 + l by omega) (.inl (show n < i0 by omega)) Hcn.out (List.getElem?_eq_getElem hjl)
            generalize cs[n + 1 + l] = cc at *
            clear hb2 hc'
            go_wp2_with (go_at_call 70; refine (contradict_any s _ m ca cc _ hs.d0 hs.d1 hsa hsc).mono ?_; rintro e w1 ⟨rfl, hb1⟩)
            go_roundg gk
            case rel => exact ⟨rfl, rfl, rfl, l + 1, by omega, by go_num, (hB2.alloc (by omega) _).trans (hb1.mono (by simp; omega))⟩
            case measure => omega
end Go.Proofs.YtffgcphmakfikaaDoor
