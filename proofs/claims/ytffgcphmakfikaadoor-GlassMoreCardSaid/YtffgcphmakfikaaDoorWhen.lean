/- The minutes of a reading, by the program. -/
import Derived.Test.YtffgcphmakfikaaDoorRse
import Derived.Deep.DeepCutAuto
set_option linter.unusedVariables false
set_option linter.unusedSimpArgs false
namespace Go.Proofs.YtffgcphmakfikaaDoor
open Go.RowKit Go.Maps

def railF (r : Rdg) : Int := 1440 * r.day + r.mi
def sunF (s : Stn) (r : Rdg) : Int := 1440 * r.day + r.mi - s.ea
theorem blk_set {W : World} {k : Nat} {o : Obj} (h : W.heap[k]? = some o) {a : Addr} (ha : k ≠ a.block) (u : Value) : (W.setCell a u).heap[k]? = some o := (Below.heap_setCell W a u k ha).trans h
/-- The cells of a slice of spans. -/
def spCells : List (Int × Int) → List Value
  | [] => []
  | p :: l => .int .i64 p.1 :: .int .i64 p.2 :: spCells l
/-- A slice of the call's own that holds just these spans. -/
def OwnSpans (w w' : World) (x : Ending) (l : List (Int × Int)) : Prop :=
  ∃ g, w.heap.size ≤ g ∧ x = .returned (.slice (some ⟨g, 0, none⟩) l.length l.length) ∧ w'.heap[g]? = some (.cells (spCells l).toArray 23) ∧ Below w.heap.size w w'

set_option maxHeartbeats 800000 in
theorem minutes_rail {s : Stn} {v : Value} {cs : List Chk} {r : Rdg} {w : World} (hs : Good s cs) (hr : r.Good) (hcl : r.cl = 1) :
    Calls Tryd.prog 41 #[stV s v, rdV r] w fun x w' => OwnSpans w w' x [(railF r - s.sl, railF r + s.sl)] := by
  have d0 := hr.d0; have d1 := hr.d1; have m0 := hr.m0; have m1 := hr.m1; have e0 := hs.e0; have e1 := hs.e1; have s0 := hs.s0; have s1 := hs.s1
  have HA : Hid (((w.alloc (stBox s v)).alloc (rdBox r)).heap[w.heap.size]? = some (stBox s v)) := Lib.hid (blk_alloc (blk_new _ _ rfl) _)
  have HB : Hid (Below w.heap.size w ((w.alloc (stBox s v)).alloc (rdBox r))) := Lib.hid (below_al (below_al (Below.refl _ _) _) _)
  have x0 := (boxCells HA.out).1
  have c1 : (r.cl == 1) = true := by rw [hcl]; rfl
  clear hcl
  go_enter Tryd.func41, Tryd.ntmps41
  go_wp2_with (go_at_call 67; refine (around_any _ _ _ (by omega) (by omega) (by omega) (by omega)).mono ?_; rintro x w1 ⟨rfl, hb1⟩; have HAq := Lib.hid (blk_below (by first | exact HA.out | exact (blk_alloc HA.out _) | exact (blk_alloc (blk_alloc HA.out _) _) | exact (blk_alloc (blk_alloc (blk_alloc HA.out _) _) _)) hb1); clear HA; have HA := HAq; clear HAq; have HAc := (boxCells HA.out).1; have HAf := (boxCells HA.out).2; have HAl := (Array.getElem?_eq_some_iff.1 HA.out).1; have HBq := Lib.hid (below_step (by first | exact HB.out | exact (below_al HB.out _) | exact (below_al (below_al HB.out _) _) | exact (below_al (below_al (below_al HB.out _) _) _)) hb1); clear HB; have HB := HBq; clear HBq; clear hb1)
  go_ret
  exact ⟨_, HB.out.size, rfl, heap_new _ _ rfl, below_al HB.out _⟩

set_option maxHeartbeats 800000 in
theorem minutes_sun {s : Stn} {v : Value} {cs : List Chk} {r : Rdg} {w : World} (hs : Good s cs) (hr : r.Good) (hcl : r.cl = 2) :
    Calls Tryd.prog 41 #[stV s v, rdV r] w fun x w' => OwnSpans w w' x [(sunF s r - s.sl, sunF s r + s.sl)] := by
  have d0 := hr.d0; have d1 := hr.d1; have m0 := hr.m0; have m1 := hr.m1; have e0 := hs.e0; have e1 := hs.e1; have s0 := hs.s0; have s1 := hs.s1
  have HA : Hid (((w.alloc (stBox s v)).alloc (rdBox r)).heap[w.heap.size]? = some (stBox s v)) := Lib.hid (blk_alloc (blk_new _ _ rfl) _)
  have HB : Hid (Below w.heap.size w ((w.alloc (stBox s v)).alloc (rdBox r))) := Lib.hid (below_al (below_al (Below.refl _ _) _) _)
  have x0 := (boxCells HA.out).1
  have c1 : (r.cl == 1) = false := by rw [hcl]; rfl
  have c2 : (r.cl == 2) = true := by rw [hcl]; rfl
  clear hcl
  go_enter Tryd.func41, Tryd.ntmps41
  go_wp2_with (go_at_call 67; refine (around_any _ _ _ (by omega) (by omega) (by omega) (by omega)).mono ?_; rintro x w1 ⟨rfl, hb1⟩; have HAq := Lib.hid (blk_below (by first | exact HA.out | exact (blk_alloc HA.out _) | exact (blk_alloc (blk_alloc HA.out _) _) | exact (blk_alloc (blk_alloc (blk_alloc HA.out _) _) _)) hb1); clear HA; have HA := HAq; clear HAq; have HAc := (boxCells HA.out).1; have HAf := (boxCells HA.out).2; have HAl := (Array.getElem?_eq_some_iff.1 HA.out).1; have HBq := Lib.hid (below_step (by first | exact HB.out | exact (below_al HB.out _) | exact (below_al (below_al HB.out _) _) | exact (below_al (below_al (below_al HB.out _) _) _)) hb1); clear HB; have HB := HBq; clear HBq; clear hb1)
  go_ret
  exact ⟨_, HB.out.size, rfl, heap_new _ _ rfl, below_al HB.out _⟩

set_option maxHeartbeats 800000 in
theorem minutes_one {s : Stn} {v : Value} {cs : List Chk} {r : Rdg} {w : World} (hs : Good s cs) (hr : r.Good) (hcl : r.cl = 3) (hj : max (railF r) (sunF s r) - s.sl ≤ min (railF r) (sunF s r) + s.sl + 1) :
    Calls Tryd.prog 41 #[stV s v, rdV r] w fun x w' => OwnSpans w w' x [(min (railF r) (sunF s r) - s.sl, max (railF r) (sunF s r) + s.sl)] := by
  have d0 := hr.d0; have d1 := hr.d1; have m0 := hr.m0; have m1 := hr.m1; have e0 := hs.e0; have e1 := hs.e1; have s0 := hs.s0; have s1 := hs.s1
  have HA : Hid (((w.alloc (stBox s v)).alloc (rdBox r)).heap[w.heap.size]? = some (stBox s v)) := Lib.hid (blk_alloc (blk_new _ _ rfl) _)
  have HB : Hid (Below w.heap.size w ((w.alloc (stBox s v)).alloc (rdBox r))) := Lib.hid (below_al (below_al (Below.refl _ _) _) _)
  have x0 := (boxCells HA.out).1
  have c1 : (r.cl == 1) = false := by rw [hcl]; rfl
  have c2 : (r.cl == 2) = false := by rw [hcl]; rfl
  clear hcl
  have Hj := Lib.hid hj
  have HL1 := Lib.hid (show min (1440 * r.day + r.mi) (1440 * r.day + r.mi - s.ea) = min (railF r) (sunF s r) from rfl)
  have HL2 := Lib.hid (show max (1440 * r.day + r.mi) (1440 * r.day + r.mi - s.ea) = max (railF r) (sunF s r) from rfl)
  have lo0 : -10000 ≤ min (railF r) (sunF s r) ∧ min (railF r) (sunF s r) ≤ 1000000 := by unfold railF sunF; omega
  have hi0 : -10000 ≤ max (railF r) (sunF s r) ∧ max (railF r) (sunF s r) ≤ 1000000 := by unfold railF sunF; omega
  generalize hlo : min (railF r) (sunF s r) = lo at *
  generalize hhi : max (railF r) (sunF s r) = hi at *
  clear hlo hhi
  have sl0 := hs.s0
  have n2 : w.heap.size ≠ w.heap.size + 1 + 1 := by omega
  have n3 : w.heap.size ≠ w.heap.size + 1 + 1 + 1 := by omega
  have n4 : w.heap.size + 1 + 1 ≠ w.heap.size := by omega
  have n5 : w.heap.size + 1 + 1 + 1 ≠ w.heap.size := by omega
  go_enter Tryd.func41, Tryd.ntmps41
  go_upto_region 8 with fail
  go_cut [7] (fun s7 wx => ∃ P : Nat, w.heap.size ≤ P ∧ s7 = .pointer (some ⟨P, 0, none⟩) ∧ wx.heap[P]? = some (spBox (lo - s.sl) (lo + s.sl)) ∧ wx.heap[w.heap.size]? = some (stBox s v) ∧ Below w.heap.size w wx)
  case first =>
    go_region_held3 (fun w' => w'.cell? ⟨w.heap.size, 7, none⟩ = some (.int .i64 s.sl)) ((simp (maxDischargeDepth := 10) [*, World.cell?_alloc_some, World.cell?_setCell_far])) ((first | (go_at_call 54; refine (least_two _ (1440 * r.day + r.mi - s.ea) _ _ _ (by go_simp)).mono ?_; rw [HL1.out]; rintro e w' ⟨rfl, rfl⟩) | (go_at_call 67; refine (around_any _ _ _ (by omega) (by omega) (by omega) (by omega)).mono ?_; rintro x w1 ⟨rfl, hb1⟩; have hN := fun o => hb1.cell (p := ⟨w.heap.size, o, none⟩) (by simp <;> omega); have hcar := (fun k o (hk : k < _) => hb1.cell (p := ⟨k, o, none⟩) hk); have hcarf := (fun k o (hk : k < _) => hb1.frozen (p := ⟨k, o, none⟩) hk); have HB1 := Lib.hid hb1; clear hb1)))
    all_goals
      go_wp2_with fail
      go_meet
      have hws := HB1.out.size
      (try simp at hws)
      refine ⟨_, ?_, rfl, ?_, ?_, ?_⟩
      · (try simp) <;> omega
      · first
          | exact heap_new _ _ rfl
          | exact heap_setCell_same (o := 1) (heap_setCell_same (o := 0) (blk_below (blk_dr (heap_new _ _ (by simp))) HB1.out) _) _
          | exact heap_setCell_same (o := 1) (heap_setCell_same (o := 0) (blk_below (blk_dr (blk_alloc (heap_new _ _ (by simp)) _)) HB1.out) _) _
      · (repeat (with_reducible first | exact HA.out | apply blk_dr | apply blk_alloc | refine blk_below ?_ HB1.out | refine blk_set ?_ (by simp <;> omega) _))
      · (repeat (with_reducible first | exact HB.out | apply below_dr | apply below_al | refine below_step ?_ HB1.out | refine below_set ?_ (by simp <;> omega) _))
  case rest =>
    obtain ⟨P, hP, rfl, hF, hA, hB⟩ := hcut
    clear HA HB x0 n2 n3 n4 n5
    have HF := Lib.hid hF
    have HA := Lib.hid hA
    have HB := Lib.hid hB
    have x0 := (boxCells hA).1
    have lP : P < wc.heap.size := (Array.getElem?_eq_some_iff.1 hF).1
    have lN : w.heap.size < wc.heap.size := (Array.getElem?_eq_some_iff.1 hA).1
    clear hF hA hB
    have n2 : w.heap.size ≠ wc.heap.size := by omega
    have n3 : w.heap.size ≠ wc.heap.size + 1 := by omega
    have n4 : wc.heap.size ≠ w.heap.size := by omega
    have n5 : wc.heap.size + 1 ≠ w.heap.size := by omega
    go_upto_region 9 with fail
    go_cut [8] (fun s8 wx => ∃ Q : Nat, w.heap.size ≤ Q ∧ s8 = .pointer (some ⟨Q, 0, none⟩) ∧ wx.heap[Q]? = some (spBox (hi - s.sl) (hi + s.sl)) ∧ wx.heap[P]? = some (spBox (lo - s.sl) (lo + s.sl)) ∧ Below w.heap.size w wx)
    case first =>
      go_region_held3 (fun w' => w'.cell? ⟨w.heap.size, 7, none⟩ = some (.int .i64 s.sl)) ((simp (maxDischargeDepth := 10) [*, World.cell?_alloc_some, World.cell?_setCell_far])) ((first | (go_at_call 53; refine (greatest_two _ (1440 * r.day + r.mi - s.ea) _ _ _ (by go_simp)).mono ?_; rw [HL2.out]; rintro e w' ⟨rfl, rfl⟩) | (go_at_call 67; refine (around_any _ _ _ (by omega) (by omega) (by omega) (by omega)).mono ?_; rintro x w1 ⟨rfl, hb1⟩; have hN := fun o => hb1.cell (p := ⟨w.heap.size, o, none⟩) (by simp <;> omega); have hcar := (fun k o (hk : k < _) => hb1.cell (p := ⟨k, o, none⟩) hk); have hcarf := (fun k o (hk : k < _) => hb1.frozen (p := ⟨k, o, none⟩) hk); have HB1 := Lib.hid hb1; clear hb1)))
      all_goals
        go_wp2_with fail
        go_meet
        have hws := HB1.out.size
        (try simp at hws)
        refine ⟨_, ?_, rfl, ?_, ?_, ?_⟩
        · (try simp) <;> omega
        · first
            | exact heap_new _ _ rfl
            | exact heap_setCell_same (o := 1) (heap_setCell_same (o := 0) (blk_below (blk_dr (heap_new _ _ (by simp))) HB1.out) _) _
            | exact heap_setCell_same (o := 1) (heap_setCell_same (o := 0) (blk_below (blk_dr (blk_alloc (heap_new _ _ (by simp)) _)) HB1.out) _) _
        · (repeat (with_reducible first | exact HF.out | apply blk_dr | apply blk_alloc | refine blk_below ?_ HB1.out | refine blk_set ?_ (by simp <;> omega) _))
        · (repeat (with_reducible first | exact HB.out | apply below_dr | apply below_al | refine below_step ?_ HB1.out | refine below_set ?_ (by simp <;> omega) _))
    case rest =>
      obtain ⟨Q, hQ, rfl, hG, hF2, hB2⟩ := hcut
      have p0 := (boxCells hF2).1
      have q0 := (boxCells hG).1
      have HB2 := Lib.hid hB2
      have hj2 := Hj.out
      clear hG hF2 hB2 HA HB HF x0
      go_wp2
      go_ret
      exact ⟨_, HB2.out.size, rfl, heap_new _ _ rfl, below_al HB2.out _⟩

set_option maxHeartbeats 800000 in
theorem minutes_two {s : Stn} {v : Value} {cs : List Chk} {r : Rdg} {w : World} (hs : Good s cs) (hr : r.Good) (hcl : r.cl = 3) (hj : ¬ max (railF r) (sunF s r) - s.sl ≤ min (railF r) (sunF s r) + s.sl + 1) :
    Calls Tryd.prog 41 #[stV s v, rdV r] w fun x w' => OwnSpans w w' x [(min (railF r) (sunF s r) - s.sl, min (railF r) (sunF s r) + s.sl), (max (railF r) (sunF s r) - s.sl, max (railF r) (sunF s r) + s.sl)] := by
  have d0 := hr.d0; have d1 := hr.d1; have m0 := hr.m0; have m1 := hr.m1; have e0 := hs.e0; have e1 := hs.e1; have s0 := hs.s0; have s1 := hs.s1
  have HA : Hid (((w.alloc (stBox s v)).alloc (rdBox r)).heap[w.heap.size]? = some (stBox s v)) := Lib.hid (blk_alloc (blk_new _ _ rfl) _)
  have HB : Hid (Below w.heap.size w ((w.alloc (stBox s v)).alloc (rdBox r))) := Lib.hid (below_al (below_al (Below.refl _ _) _) _)
  have x0 := (boxCells HA.out).1
  have c1 : (r.cl == 1) = false := by rw [hcl]; rfl
  have c2 : (r.cl == 2) = false := by rw [hcl]; rfl
  clear hcl
  have Hj := Lib.hid hj
  have HL1 := Lib.hid (show min (1440 * r.day + r.mi) (1440 * r.day + r.mi - s.ea) = min (railF r) (sunF s r) from rfl)
  have HL2 := Lib.hid (show max (1440 * r.day + r.mi) (1440 * r.day + r.mi - s.ea) = max (railF r) (sunF s r) from rfl)
  have lo0 : -10000 ≤ min (railF r) (sunF s r) ∧ min (railF r) (sunF s r) ≤ 1000000 := by unfold railF sunF; omega
  have hi0 : -10000 ≤ max (railF r) (sunF s r) ∧ max (railF r) (sunF s r) ≤ 1000000 := by unfold railF sunF; omega
  generalize hlo : min (railF r) (sunF s r) = lo at *
  generalize hhi : max (railF r) (sunF s r) = hi at *
  clear hlo hhi
  have sl0 := hs.s0
  have n2 : w.heap.size ≠ w.heap.size + 1 + 1 := by omega
  have n3 : w.heap.size ≠ w.heap.size + 1 + 1 + 1 := by omega
  have n4 : w.heap.size + 1 + 1 ≠ w.heap.size := by omega
  have n5 : w.heap.size + 1 + 1 + 1 ≠ w.heap.size := by omega
  go_enter Tryd.func41, Tryd.ntmps41
  go_upto_region 8 with fail
  go_cut [7] (fun s7 wx => ∃ P : Nat, w.heap.size ≤ P ∧ s7 = .pointer (some ⟨P, 0, none⟩) ∧ wx.heap[P]? = some (spBox (lo - s.sl) (lo + s.sl)) ∧ wx.heap[w.heap.size]? = some (stBox s v) ∧ Below w.heap.size w wx)
  case first =>
    go_region_held3 (fun w' => w'.cell? ⟨w.heap.size, 7, none⟩ = some (.int .i64 s.sl)) ((simp (maxDischargeDepth := 10) [*, World.cell?_alloc_some, World.cell?_setCell_far])) ((first | (go_at_call 54; refine (least_two _ (1440 * r.day + r.mi - s.ea) _ _ _ (by go_simp)).mono ?_; rw [HL1.out]; rintro e w' ⟨rfl, rfl⟩) | (go_at_call 67; refine (around_any _ _ _ (by omega) (by omega) (by omega) (by omega)).mono ?_; rintro x w1 ⟨rfl, hb1⟩; have hN := fun o => hb1.cell (p := ⟨w.heap.size, o, none⟩) (by simp <;> omega); have hcar := (fun k o (hk : k < _) => hb1.cell (p := ⟨k, o, none⟩) hk); have hcarf := (fun k o (hk : k < _) => hb1.frozen (p := ⟨k, o, none⟩) hk); have HB1 := Lib.hid hb1; clear hb1)))
    all_goals
      go_wp2_with fail
      go_meet
      have hws := HB1.out.size
      (try simp at hws)
      refine ⟨_, ?_, rfl, ?_, ?_, ?_⟩
      · (try simp) <;> omega
      · first
          | exact heap_new _ _ rfl
          | exact heap_setCell_same (o := 1) (heap_setCell_same (o := 0) (blk_below (blk_dr (heap_new _ _ (by simp))) HB1.out) _) _
          | exact heap_setCell_same (o := 1) (heap_setCell_same (o := 0) (blk_below (blk_dr (blk_alloc (heap_new _ _ (by simp)) _)) HB1.out) _) _
      · (repeat (with_reducible first | exact HA.out | apply blk_dr | apply blk_alloc | refine blk_below ?_ HB1.out | refine blk_set ?_ (by simp <;> omega) _))
      · (repeat (with_reducible first | exact HB.out | apply below_dr | apply below_al | refine below_step ?_ HB1.out | refine below_set ?_ (by simp <;> omega) _))
  case rest =>
    obtain ⟨P, hP, rfl, hF, hA, hB⟩ := hcut
    clear HA HB x0 n2 n3 n4 n5
    have HF := Lib.hid hF
    have HA := Lib.hid hA
    have HB := Lib.hid hB
    have x0 := (boxCells hA).1
    have lP : P < wc.heap.size := (Array.getElem?_eq_some_iff.1 hF).1
    have lN : w.heap.size < wc.heap.size := (Array.getElem?_eq_some_iff.1 hA).1
    clear hF hA hB
    have n2 : w.heap.size ≠ wc.heap.size := by omega
    have n3 : w.heap.size ≠ wc.heap.size + 1 := by omega
    have n4 : wc.heap.size ≠ w.heap.size := by omega
    have n5 : wc.heap.size + 1 ≠ w.heap.size := by omega
    go_upto_region 9 with fail
    go_cut [8] (fun s8 wx => ∃ Q : Nat, w.heap.size ≤ Q ∧ s8 = .pointer (some ⟨Q, 0, none⟩) ∧ wx.heap[Q]? = some (spBox (hi - s.sl) (hi + s.sl)) ∧ wx.heap[P]? = some (spBox (lo - s.sl) (lo + s.sl)) ∧ Below w.heap.size w wx)
    case first =>
      go_region_held3 (fun w' => w'.cell? ⟨w.heap.size, 7, none⟩ = some (.int .i64 s.sl)) ((simp (maxDischargeDepth := 10) [*, World.cell?_alloc_some, World.cell?_setCell_far])) ((first | (go_at_call 53; refine (greatest_two _ (1440 * r.day + r.mi - s.ea) _ _ _ (by go_simp)).mono ?_; rw [HL2.out]; rintro e w' ⟨rfl, rfl⟩) | (go_at_call 67; refine (around_any _ _ _ (by omega) (by omega) (by omega) (by omega)).mono ?_; rintro x w1 ⟨rfl, hb1⟩; have hN := fun o => hb1.cell (p := ⟨w.heap.size, o, none⟩) (by simp <;> omega); have hcar := (fun k o (hk : k < _) => hb1.cell (p := ⟨k, o, none⟩) hk); have hcarf := (fun k o (hk : k < _) => hb1.frozen (p := ⟨k, o, none⟩) hk); have HB1 := Lib.hid hb1; clear hb1)))
      all_goals
        go_wp2_with fail
        go_meet
        have hws := HB1.out.size
        (try simp at hws)
        refine ⟨_, ?_, rfl, ?_, ?_, ?_⟩
        · (try simp) <;> omega
        · first
            | exact heap_new _ _ rfl
            | exact heap_setCell_same (o := 1) (heap_setCell_same (o := 0) (blk_below (blk_dr (heap_new _ _ (by simp))) HB1.out) _) _
            | exact heap_setCell_same (o := 1) (heap_setCell_same (o := 0) (blk_below (blk_dr (blk_alloc (heap_new _ _ (by simp)) _)) HB1.out) _) _
        · (repeat (with_reducible first | exact HF.out | apply blk_dr | apply blk_alloc | refine blk_below ?_ HB1.out | refine blk_set ?_ (by simp <;> omega) _))
        · (repeat (with_reducible first | exact HB.out | apply below_dr | apply below_al | refine below_step ?_ HB1.out | refine below_set ?_ (by simp <;> omega) _))
    case rest =>
      obtain ⟨Q, hQ, rfl, hG, hF2, hB2⟩ := hcut
      have p0 := (boxCells hF2).1
      have q0 := (boxCells hG).1
      have HB2 := Lib.hid hB2
      have hj2 := Hj.out
      clear hG hF2 hB2 HA HB HF x0
      go_wp2
      go_ret
      exact ⟨_, HB2.out.size, rfl, heap_new _ _ rfl, below_al HB2.out _⟩
end Go.Proofs.YtffgcphmakfikaaDoor
