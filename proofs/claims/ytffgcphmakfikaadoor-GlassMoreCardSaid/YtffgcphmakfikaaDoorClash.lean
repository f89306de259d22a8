/- Comparisons that contradict each other: by the program, two of them. -/
import Derived.Test.YtffgcphmakfikaaDoorVar
import Derived.Deep.LoopGhost
set_option linter.unusedVariables false
set_option linter.unusedSimpArgs false
namespace Go.Proofs.YtffgcphmakfikaaDoor
open Go.RowKit

@[reducible] def ckV (c : Chk) : Value := .agg #[.int .i64 c.day, .int .i64 c.lo, .int .i64 c.hi]
/-- Whether two comparisons contradict each other. -/
def contraB (s : Stn) (a b : Chk) : Bool := decide (s.dr * farI a.day b.day < max (a.lo - b.hi) (b.lo - a.hi))
/-- A comparison whose numbers are within the limits. -/
structure Chk.Sane (c : Chk) : Prop where
  d0 : 0 ≤ c.day
  d1 : c.day ≤ 400
  l0 : -2000 ≤ c.lo
  lh : c.lo ≤ c.hi
  h1 : c.hi ≤ 2000
theorem chkB_sane {c : Chk} (h : chkB c = true) : c.Sane := by
  simp only [chkB, Bool.and_eq_true, betw_iff, withinB, decide_eq_true_eq] at h
  obtain ⟨⟨h1, h2⟩, ⟨h3, h4⟩, h5⟩ := h
  exact ⟨h1, h2, h3, h4, h5⟩

theorem farI_bounds {a b : Int} (ha : 0 ≤ a) (ha' : a ≤ 10000) (hb : 0 ≤ b) (hb' : b ≤ 10000) : 0 ≤ farI a b ∧ farI a b ≤ 10000 := by unfold farI; omega
theorem change_bounds {d a b : Int} (hd : 0 ≤ d) (hd' : d ≤ 1000) (ha : 0 ≤ a) (ha' : a ≤ 10000) (hb : 0 ≤ b) (hb' : b ≤ 10000) : 0 ≤ d * farI a b ∧ d * farI a b ≤ 10000000 := by
  have h := farI_bounds ha ha' hb hb'
  exact ⟨Int.mul_nonneg hd h.1, Int.le_trans (Int.mul_le_mul hd' h.2 h.1 (by omega)) (by omega)⟩

set_option maxHeartbeats 400000 in
theorem contradict_any (s : Stn) (v m : Value) (a b : Chk) (w : World) (hd : 0 ≤ s.dr) (hd' : s.dr ≤ 1000) (ha : a.Sane) (hb : b.Sane) :
    Calls Tryd.prog 70 #[vwV s v m, ckV a, ckV b] w fun e w' => e = .returned (.bool (contraB s a b)) ∧ Below w.heap.size w w' := by
  obtain ⟨a0, a1, a2, a3, a4⟩ := ha
  obtain ⟨b0, b1, b2, b3, b4⟩ := hb
  have hp := change_bounds hd hd' a0 (show a.day ≤ 10000 by omega) b0 (show b.day ≤ 10000 by omega)
  by_cases h : s.dr * farI a.day b.day < max (a.lo - b.hi) (b.lo - a.hi)
  all_goals
    go_enter Tryd.func70, Tryd.ntmps70
    go_wp2_with (first | (go_at_call 53; refine (greatest_two _ (b.lo - a.hi) _ _ _ (by go_simp)).mono ?_; rintro e w' ⟨rfl, rfl⟩) | (go_at_call 63; refine (change_any s v m _ _ _ hd hd' a0 (by omega) b0 (by omega)).mono ?_; rintro e w1 ⟨rfl, hb1⟩))
    go_ret
    exact ⟨ret_bool (by simp [contraB, h]), (((((Below.refl _ _).alloc (Nat.le_refl _) _).alloc (by simp) _).alloc (by simp <;> omega) _).alloc (by simp <;> omega) _).trans (hb1.mono (by simp <;> omega))⟩

def Contra (s : Stn) (cs : List Chk) (i j : Nat) : Prop := ∃ a b, cs[i]? = some a ∧ cs[j]? = some b ∧ contraB s a b = true
def Agreed (s : Stn) (cs : List Chk) : Prop := ∀ i j, i < j → ¬ Contra s cs i j
def First (s : Stn) (cs : List Chk) (i j : Nat) : Prop := i < j ∧ Contra s cs i j ∧ ∀ i' j', i' < j' → Contra s cs i' j' → i < i' ∨ (i = i' ∧ j ≤ j')
theorem Agreed.no {s : Stn} {cs : List Chk} (h : Agreed s cs) {i j : Nat} (hij : i < j) {a b : Chk} (ha : cs[i]? = some a) (hb : cs[j]? = some b) : contraB s a b = false := by
  cases hc : contraB s a b
  · rfl
  · exact absurd ⟨a, b, ha, hb, hc⟩ (h i j hij)
/-- The numbers of a station and its comparisons that are as defined. -/
structure Sane (s : Stn) (cs : List Chk) : Prop where
  d0 : 0 ≤ s.dr
  d1 : s.dr ≤ 1000
  len : cs.length ≤ 12
  all : ∀ c ∈ cs, c.Sane

@[reducible] def vwBox (s : Stn) (v m : Value) : Obj := .cells #[.int .i64 s.hl, .int .i64 s.hh, .int .i64 s.gl, .int .i64 s.gh, .int .i64 s.dr, .int .i64 s.rd, .int .i64 s.ea, .int .i64 s.sl, v, m] 71
@[reducible] def ckBox (c : Chk) : Obj := .cells #[.int .i64 c.day, .int .i64 c.lo, .int .i64 c.hi] 31

set_option maxHeartbeats 1600000 in
set_option maxRecDepth 100000 in
theorem clash_no (s : Stn) (cs : List Chk) (m : Value) (b off cap : Nat) (w : World) (hs : Sane s cs) (hcap : cs.length ≤ cap) (hm : cap ≤ maxLen) (hb : b < w.heap.size) (hc : ChksAt w b off cs) (hag : Agreed s cs) :
    Calls Tryd.prog 46 #[vwV s (.slice (some ⟨b, off, none⟩) cs.length cap) m] w fun e w' => e = .returned (.tuple #[.int .i64 0, .int .i64 0, .bool false]) ∧ Below w.heap.size w w' := by
  unfold maxLen at hm
  have h12 := hs.len
  go_enter Tryd.func46, Tryd.ntmps46
  go_wp2_with fail
  go_step3
  go_wp2_with fail
  go_step3
  go_wp2_with fail
  go_loopg [5, 6, 7, 16] cs.length (fun g a1 a2 a3 k wr => a1 = .int .i64 0 ∧ a2 = .int .i64 0 ∧ a3 = .bool false ∧ ∃ n : Nat, n + g = cs.length ∧ k = .int .i64 n ∧ Below (w.heap.size + 1) (w.alloc (vwBox s (.slice (some ⟨b, off, none⟩) cs.length cap) m)) wr)
  case atStart => exact ⟨rfl, rfl, rfl, 0, by omega, rfl, Below.refl _ _⟩
  case round =>
    obtain ⟨rfl, rfl, rfl, n, hn, rfl, hB⟩ := hrel
    obtain ⟨wo, rfl⟩ : ∃ wo : World, wo = wr := ⟨_, rfl⟩
    have H0 : Below w.heap.size w wo := ((Below.refl _ _).alloc (Nat.le_refl _) _).trans (hB.mono (by omega))
    have hz : w.heap.size < wo.heap.size := by have := hB.size; simp at this; omega
    have hbox : ∀ o, wo.cell? ⟨w.heap.size, o, none⟩ = (w.alloc (vwBox s (.slice (some ⟨b, off, none⟩) cs.length cap) m)).cell? ⟨w.heap.size, o, none⟩ := fun o => hB.cell (p := ⟨w.heap.size, o, none⟩) (by show w.heap.size < _; omega)
    have hc' := hc.below H0 hb
    clear hc
    cases gk with
    | zero =>
      obtain rfl : n = cs.length := by omega
      go_wp2_with fail
      try rw [Exit.noGoto_ret]
      go_ret3
      exact ⟨rfl, H0⟩
    | succ g1 =>
      have hlt : n < cs.length := by omega
      obtain ⟨c0, c1, c2⟩ := hc' n cs[n] (List.getElem?_eq_getElem hlt)
      have Hcn := Lib.hid (List.getElem?_eq_getElem hlt)
      have hsa := hs.all cs[n] (List.getElem_mem hlt)
      generalize cs[n] = ca at *
      by_cases hcp : n + 1 = cap
      all_goals
        go_wp2_with fail
        go_loopg [5, 6, 7, 28] (cs.length - n - 1) (fun g a1 a2 a3 k wx => a1 = .int .i64 0 ∧ a2 = .int .i64 0 ∧ a3 = .bool false ∧ ∃ l : Nat, l + g = cs.length - n - 1 ∧ k = .int .i64 l ∧ Below (wo.heap.size + 1) (wo.alloc (ckBox ca)) wx)
        case atStart => exact ⟨rfl, rfl, rfl, 0, by omega, rfl, Below.refl _ _⟩
        case round =>
          obtain ⟨rfl, rfl, rfl, l, hl, rfl, hB2⟩ := hrel
          have hz2 : wo.heap.size < wr.heap.size := by have := hB2.size; simp at this; omega
          have hz3 : w.heap.size < wr.heap.size := by omega
          have HB3 : Below (w.heap.size + 1) (w.alloc (vwBox s (.slice (some ⟨b, off, none⟩) cs.length cap) m)) wr := (hB.alloc (by omega) _).trans (hB2.mono (by omega))
          have hbox2 : ∀ o, wr.cell? ⟨w.heap.size, o, none⟩ = (w.alloc (vwBox s (.slice (some ⟨b, off, none⟩) cs.length cap) m)).cell? ⟨w.heap.size, o, none⟩ := fun o => HB3.cell (p := ⟨w.heap.size, o, none⟩) (by show w.heap.size < _; omega)
          have hboxa : ∀ o, wr.cell? ⟨wo.heap.size, o, none⟩ = (wo.alloc (ckBox ca)).cell? ⟨wo.heap.size, o, none⟩ := fun o => hB2.cell (p := ⟨wo.heap.size, o, none⟩) (by show wo.heap.size < _; omega)
          cases gk with
          | zero =>
            have hll : ¬ ((l : Int) < ((cs.length - (n + 1) : Nat) : Int)) := by omega
            go_wp2_with fail
            go_roundg g1
            case rel => exact ⟨rfl, rfl, rfl, n + 1, by omega, by go_num, HB3⟩
            case measure => omega
          | succ gk =>
            have hjl : n + 1 + l < cs.length := by omega
            obtain ⟨d0, d1, d2⟩ := hc' (n + 1 + l) cs[n + 1 + l] (List.getElem?_eq_getElem hjl)
            have hb2 : ∀ o, wr.cell? ⟨b, o, none⟩ = wo.cell? ⟨b, o, none⟩ := fun o => (hB2.cell (p := ⟨b, o, none⟩) (by show b < _; omega)).trans (World.cell?_of_block (Below.heap_alloc _ _ _ (by show b < _; omega)))
            first
            | (exfalso; omega)
            | (replace d0 := (hb2 _).trans d0; replace d1 := (hb2 _).trans d1; replace d2 := (hb2 _).trans d2
               rw [show off + (n + 1 + l) * 3 = off + (n + 1) * 3 + l * 3 by omega] at d0 d1 d2
               have hsc := hs.all cs[n + 1 + l] (List.getElem_mem hjl)
               have hno := hag.no (show n < n + 1 + l by omega) Hcn.out (List.getElem?_eq_getElem hjl)
               generalize cs[n + 1 + l] = cc at *
               clear hb2 hc'
               go_wp2_with (go_at_call 70; refine (contradict_any s _ m ca cc _ hs.d0 hs.d1 hsa hsc).mono ?_; rintro e w1 ⟨rfl, hb1⟩)
               go_roundg gk
               case rel => exact ⟨rfl, rfl, rfl, l + 1, by omega, by go_num, (hB2.alloc (by omega) _).trans (hb1.mono (by simp; omega))⟩
               case measure => omega)
end Go.Proofs.YtffgcphmakfikaaDoor
