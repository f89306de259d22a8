/- A station's comparisons in memory; which stations are as defined, by the program. -/
import Derived.Test.YtffgcphmakfikaaDoorBase
import Derived.BigQuiet
import Derived.Deep.QuietTactic
set_option linter.unusedVariables false
set_option linter.unusedSimpArgs false
namespace Go.Proofs.YtffgcphmakfikaaDoor
open Go.RowKit
/-- A comparison: its day, and the ends of its index. -/
structure Chk where
  day : Int
  lo : Int
  hi : Int
/-- A station's numbers. -/
structure Stn where
  hl : Int
  hh : Int
  gl : Int
  gh : Int
  dr : Int
  rd : Int
  ea : Int
  sl : Int

/-- The cells of comparisons in a row of memory. -/
def ChksAt (w : World) (b off : Nat) (cs : List Chk) : Prop :=
  ∀ i c, cs[i]? = some c → w.cell? ⟨b, off + i * 3, none⟩ = some (.int .i64 c.day) ∧ w.cell? ⟨b, off + i * 3 + 1, none⟩ = some (.int .i64 c.lo) ∧ w.cell? ⟨b, off + i * 3 + 2, none⟩ = some (.int .i64 c.hi)

/-- A slice that reads as a list of comparisons. -/
def Chks (w : World) (v : Value) (cs : List Chk) : Prop :=
  ∃ A cap, v = .slice A cs.length cap ∧ cs.length ≤ cap ∧ cap ≤ maxLen ∧ (cs = [] ∨ ∃ b off, A = some ⟨b, off, none⟩ ∧ b < w.heap.size ∧ ChksAt w b off cs)

theorem bcell {W w1 : World} {B : Nat} (hb : Below B W w1) : (∀ b o, b < B → w1.cell? ⟨b, o, none⟩ = W.cell? ⟨b, o, none⟩) ∧ (∀ b o, b < B → w1.frozen? ⟨b, o, none⟩ = W.frozen? ⟨b, o, none⟩) :=
  ⟨fun b o h => hb.cell (p := ⟨b, o, none⟩) h, fun b o h => hb.frozen (p := ⟨b, o, none⟩) h⟩

theorem ChksAt.below {w w' : World} {B b off : Nat} {cs : List Chk} (h : ChksAt w b off cs) (hb : Below B w w') (hB : b < B) : ChksAt w' b off cs := fun i c hc => by
  obtain ⟨h0, h1, h2⟩ := h i c hc
  exact ⟨(hb.cell (p := ⟨b, _, none⟩) hB).trans h0, (hb.cell (p := ⟨b, _, none⟩) hB).trans h1, (hb.cell (p := ⟨b, _, none⟩) hB).trans h2⟩

theorem Chks.below {w w' : World} {v : Value} {cs : List Chk} (h : Chks w v cs) (hb : Below w.heap.size w w') : Chks w' v cs := by
  obtain ⟨A, cap, hv, hl, hm, h⟩ := h
  refine ⟨A, cap, hv, hl, hm, ?_⟩
  rcases h with h | ⟨b, off, hA, hlt, hc⟩
  · exact .inl h
  · exact .inr ⟨b, off, hA, Nat.lt_of_lt_of_le hlt hb.size, hc.below hb hlt⟩

def chkB (c : Chk) : Bool := betw c.day 0 400 && withinB c.lo c.hi (-2000) 2000
def soundB (s : Stn) (cs : List Chk) : Bool :=
  decide (cs.length ≤ 12) && cs.all chkB && withinB s.hl s.hh 0 3000 && withinB s.gl s.gh (-3000) 3000 && betw s.dr 0 100 && betw s.rd 0 200 && betw s.ea (-720) 720 && betw s.sl 0 60

/-- The value of a station. -/
@[reducible] def stV (s : Stn) (v : Value) : Value := .agg #[.int .i64 s.hl, .int .i64 s.hh, .int .i64 s.gl, .int .i64 s.gh, .int .i64 s.dr, .int .i64 s.rd, .int .i64 s.ea, .int .i64 s.sl, v]

theorem all_take_succ {p : Chk → Bool} {cs : List Chk} {n : Nat} {c : Chk} (hc : cs[n]? = some c) (h : (cs.take n).all p = true) (hp : p c = true) : (cs.take (n + 1)).all p = true := by
  rw [List.take_add_one, hc]
  simp only [List.all_append, h, Option.toList, List.all_cons, hp, List.all_nil, Bool.and_true]
theorem all_false {p : Chk → Bool} {cs : List Chk} {n : Nat} {c : Chk} (hc : cs[n]? = some c) (hp : p c = false) : cs.all p = false := by
  rw [List.all_eq_false]
  exact ⟨c, List.mem_of_getElem? hc, by simp [hp]⟩

def lastB (s : Stn) : Bool := withinB s.hl s.hh 0 3000 && withinB s.gl s.gh (-3000) 3000 && betw s.dr 0 100 && betw s.rd 0 200 && betw s.ea (-720) 720 && betw s.sl 0 60

set_option maxHeartbeats 800000 in
set_option maxRecDepth 100000 in
theorem soundStation_some (s : Stn) (cs : List Chk) (b off cap : Nat) (w : World) (hcap : cs.length ≤ cap) (hm : cap ≤ maxLen) (hb : b < w.heap.size) (hc : ChksAt w b off cs) :
    Calls Tryd.prog 28 #[stV s (.slice (some ⟨b, off, none⟩) cs.length cap)] w fun e w' => e = .returned (.bool (soundB s cs)) ∧ Below w.heap.size w w' := by
  unfold maxLen at hm
  by_cases h12 : cs.length ≤ 12
  · go_enter Tryd.func28, Tryd.ntmps28
    go_wp2_with fail
    go_loopw [4, 12] (fun _ k wr => ∃ n : Nat, n ≤ cs.length ∧ k = .int .i64 n ∧ (cs.take n).all chkB = true ∧ Below (w.heap.size + 1) (w.alloc (.cells #[.int .i64 s.hl, .int .i64 s.hh, .int .i64 s.gl, .int .i64 s.gh, .int .i64 s.dr, .int .i64 s.rd, .int .i64 s.ea, .int .i64 s.sl, .slice (some ⟨b, off, none⟩) cs.length cap] 26)) wr) (fun _ k _ => cs.length - (intOf k).toNat)
    case atStart => exact ⟨0, Nat.zero_le _, rfl, by simp, Below.refl _ _⟩
    case round =>
      obtain ⟨n, hn, rfl, hall, hB⟩ := hrel
      have hbw : ∀ o, wr.cell? ⟨b, o, none⟩ = w.cell? ⟨b, o, none⟩ := fun o => (hB.cell (p := ⟨b, o, none⟩) (by show b < _; omega)).trans (World.cell?_of_block (Below.heap_alloc _ _ _ hb))
      have hz : w.heap.size + 1 ≤ wr.heap.size := by have := hB.size; simpa using this
      obtain ⟨hbc, hbf⟩ := bcell hB
      have hbox : ∀ o, wr.cell? ⟨w.heap.size, o, none⟩ = (w.alloc (.cells #[.int .i64 s.hl, .int .i64 s.hh, .int .i64 s.gl, .int .i64 s.gh, .int .i64 s.dr, .int .i64 s.rd, .int .i64 s.ea, .int .i64 s.sl, .slice (some ⟨b, off, none⟩) cs.length cap] 26)).cell? ⟨w.heap.size, o, none⟩ := fun o => hbc _ _ (by omega)
      by_cases hlt : n < cs.length
      · obtain ⟨c0, c1, c2⟩ := hc n cs[n] (List.getElem?_eq_getElem hlt)
        replace c0 := (hbw _).trans c0; replace c1 := (hbw _).trans c1; replace c2 := (hbw _).trans c2
        have hcn : cs[n]? = some cs[n] := List.getElem?_eq_getElem hlt
        have Hcn := Lib.hid hcn
        have Hall := Lib.hid hall
        generalize cs[n] = c at *
        clear hcn hall hc hbc hbf hbw
        by_cases hd : betw c.day 0 400 = true
        · by_cases hw : withinB c.lo c.hi (-2000) 2000 = true
          · go_wp2_with (first | (go_at_call 33; refine (soundDay_any _ _).mono ?_; rintro e w' ⟨rfl, rfl⟩) | (go_at_call 45; refine (within_any _ _ _ _ _).mono ?_; rintro e w1 ⟨rfl, hb1⟩))
            go_roundw
            case rel => exact ⟨n + 1, by omega, by go_num, all_take_succ Hcn.out Hall.out (by simp [chkB, hd, hw]), (hB.alloc (by omega) _).trans (hb1.mono (by simp; omega))⟩
            case measure => simp [intOf]; omega
          · have hw' := Bool.not_eq_true _ ▸ hw
            go_wp2_with (first | (go_at_call 33; refine (soundDay_any _ _).mono ?_; rintro e w' ⟨rfl, rfl⟩) | (go_at_call 45; refine (within_any _ _ _ _ _).mono ?_; rintro e w1 ⟨rfl, hb1⟩))
            go_ret
            exact ⟨ret_bool (by rw [soundB, all_false Hcn.out (by simp [chkB, hd, hw'])]; simp), ((((Below.refl _ _).alloc (Nat.le_refl _) _).trans (hB.mono (by omega))).alloc (by omega) _).trans (hb1.mono (by simp; omega))⟩
        · have hd' := Bool.not_eq_true _ ▸ hd
          go_wp2_with (first | (go_at_call 33; refine (soundDay_any _ _).mono ?_; rintro e w' ⟨rfl, rfl⟩) | (go_at_call 45; refine (within_any _ _ _ _ _).mono ?_; rintro e w1 ⟨rfl, hb1⟩))
          go_ret
          exact ⟨ret_bool (by rw [soundB, all_false Hcn.out (by simp [chkB, hd'])]; simp), (((Below.refl _ _).alloc (Nat.le_refl _) _).trans (hB.mono (by omega))).alloc (by omega) _⟩
      · obtain rfl : n = cs.length := by omega
        rw [List.take_length] at hall
        have Hs := Lib.hid (show soundB s cs = lastB s by simp [soundB, lastB, hall, h12])
        have H0 : Below w.heap.size w wr := ((Below.refl _ _).alloc (Nat.le_refl _) _).trans (hB.mono (by omega))
        clear hall hc hbw hbc hbf hB
        cases q0 : withinB s.hl s.hh 0 3000
        · have Hl := Lib.hid (show false = soundB s cs by rw [Hs.out]; simp [lastB, q0])
          go_wp2_with (first | (go_at_call 36; refine (between_any _ _ _ _).mono ?_; rintro e w' ⟨rfl, rfl⟩) | (go_at_call 45; refine (within_any _ _ _ _ _).mono ?_; rintro e w1 ⟨rfl, hb1⟩; replace hbox := fun o => (hb1.cell (p := ⟨w.heap.size, o, none⟩) (by show w.heap.size < _; omega)).trans (hbox o); have hz1 := hb1.size; replace H0 := H0.trans (hb1.mono H0.size); clear hb1))
          go_ret
          exact ⟨ret_bool Hl.out, H0⟩
        cases q1 : withinB s.gl s.gh (-3000) 3000
        · have Hl := Lib.hid (show false = soundB s cs by rw [Hs.out]; simp [lastB, q0, q1])
          go_wp2_with (first | (go_at_call 36; refine (between_any _ _ _ _).mono ?_; rintro e w' ⟨rfl, rfl⟩) | (go_at_call 45; refine (within_any _ _ _ _ _).mono ?_; rintro e w1 ⟨rfl, hb1⟩; replace hbox := fun o => (hb1.cell (p := ⟨w.heap.size, o, none⟩) (by show w.heap.size < _; omega)).trans (hbox o); have hz1 := hb1.size; replace H0 := H0.trans (hb1.mono H0.size); clear hb1))
          go_ret
          exact ⟨ret_bool Hl.out, H0⟩
        cases q2 : betw s.dr 0 100
        · have Hl := Lib.hid (show false = soundB s cs by rw [Hs.out]; simp [lastB, q0, q1, q2])
          go_wp2_with (first | (go_at_call 36; refine (between_any _ _ _ _).mono ?_; rintro e w' ⟨rfl, rfl⟩) | (go_at_call 45; refine (within_any _ _ _ _ _).mono ?_; rintro e w1 ⟨rfl, hb1⟩; replace hbox := fun o => (hb1.cell (p := ⟨w.heap.size, o, none⟩) (by show w.heap.size < _; omega)).trans (hbox o); have hz1 := hb1.size; replace H0 := H0.trans (hb1.mono H0.size); clear hb1))
          go_ret
          exact ⟨ret_bool Hl.out, H0⟩
        cases q3 : betw s.rd 0 200
        · have Hl := Lib.hid (show false = soundB s cs by rw [Hs.out]; simp [lastB, q0, q1, q2, q3])
          go_wp2_with (first | (go_at_call 36; refine (between_any _ _ _ _).mono ?_; rintro e w' ⟨rfl, rfl⟩) | (go_at_call 45; refine (within_any _ _ _ _ _).mono ?_; rintro e w1 ⟨rfl, hb1⟩; replace hbox := fun o => (hb1.cell (p := ⟨w.heap.size, o, none⟩) (by show w.heap.size < _; omega)).trans (hbox o); have hz1 := hb1.size; replace H0 := H0.trans (hb1.mono H0.size); clear hb1))
          go_ret
          exact ⟨ret_bool Hl.out, H0⟩
        cases q4 : betw s.ea (-720) 720
        · have Hl := Lib.hid (show false = soundB s cs by rw [Hs.out]; simp [lastB, q0, q1, q2, q3, q4])
          go_wp2_with (first | (go_at_call 36; refine (between_any _ _ _ _).mono ?_; rintro e w' ⟨rfl, rfl⟩) | (go_at_call 45; refine (within_any _ _ _ _ _).mono ?_; rintro e w1 ⟨rfl, hb1⟩; replace hbox := fun o => (hb1.cell (p := ⟨w.heap.size, o, none⟩) (by show w.heap.size < _; omega)).trans (hbox o); have hz1 := hb1.size; replace H0 := H0.trans (hb1.mono H0.size); clear hb1))
          go_ret
          exact ⟨ret_bool Hl.out, H0⟩
        cases q5 : betw s.sl 0 60
        · have Hl := Lib.hid (show false = soundB s cs by rw [Hs.out]; simp [lastB, q0, q1, q2, q3, q4, q5])
          go_wp2_with (first | (go_at_call 36; refine (between_any _ _ _ _).mono ?_; rintro e w' ⟨rfl, rfl⟩) | (go_at_call 45; refine (within_any _ _ _ _ _).mono ?_; rintro e w1 ⟨rfl, hb1⟩; replace hbox := fun o => (hb1.cell (p := ⟨w.heap.size, o, none⟩) (by show w.heap.size < _; omega)).trans (hbox o); have hz1 := hb1.size; replace H0 := H0.trans (hb1.mono H0.size); clear hb1))
          go_ret
          exact ⟨ret_bool Hl.out, H0⟩
        · have Hl := Lib.hid (show true = soundB s cs by rw [Hs.out]; simp [lastB, q0, q1, q2, q3, q4, q5])
          go_wp2_with (first | (go_at_call 36; refine (between_any _ _ _ _).mono ?_; rintro e w' ⟨rfl, rfl⟩) | (go_at_call 45; refine (within_any _ _ _ _ _).mono ?_; rintro e w1 ⟨rfl, hb1⟩; replace hbox := fun o => (hb1.cell (p := ⟨w.heap.size, o, none⟩) (by show w.heap.size < _; omega)).trans (hbox o); have hz1 := hb1.size; replace H0 := H0.trans (hb1.mono H0.size); clear hb1))
          go_ret
          exact ⟨ret_bool Hl.out, H0⟩
  · have hs : soundB s cs = false := by simp [soundB, h12]
    rw [hs]
    go_enter Tryd.func28, Tryd.ntmps28
    go_wp2
    go_ret
    exact ⟨rfl, (Below.refl _ _).alloc (Nat.le_refl _) _⟩
end Go.Proofs.YtffgcphmakfikaaDoor
