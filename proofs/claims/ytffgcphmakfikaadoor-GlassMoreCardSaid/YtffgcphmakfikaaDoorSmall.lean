/- Small functions of the program: ends of spans, readings as defined, a station that is looked at. -/
import Derived.Test.YtffgcphmakfikaaDoorBnd
import Derived.Test.YtffgcphmakfikaaDoorWea
set_option linter.unusedVariables false
set_option linter.unusedSimpArgs false
namespace Go.Proofs.YtffgcphmakfikaaDoor
open Go.RowKit Go.Maps

theorem other_any (e : Int) (w : World) (h0 : -10 ≤ e) (h1 : e ≤ 10) :
    Calls Tryd.prog 50 #[.int .i64 e] w fun x w' => x = .returned (.int .i64 (1 - e)) ∧ w = w' := by
  go_enter Tryd.func50, Tryd.ntmps50
  go_wp2
  go_ret
  exact ⟨rfl, rfl⟩

def ofF (e lo hi : Int) : Int := if e = 0 then lo else hi
theorem of_any (e lo hi : Int) (w : World) (h0 : 0 ≤ e) (h1 : e ≤ 1) :
    Calls Tryd.prog 66 #[.int .i64 e, spV lo hi] w fun x w' => x = .returned (.int .i64 (ofF e lo hi)) ∧ Below w.heap.size w w' := by
  rcases (by omega : e = 0 ∨ e = 1) with rfl | rfl
  all_goals
    go_enter Tryd.func66, Tryd.ntmps66
    go_wp2
    go_ret
    exact ⟨rfl, (Below.refl _ _).alloc (Nat.le_refl _) _⟩

theorem inside_any (n lo hi : Int) (w : World) :
    Calls Tryd.prog 56 #[.int .i64 n, spV lo hi] w fun x w' => x = .returned (.bool (betw n lo hi)) ∧ Below w.heap.size w w' := by
  go_enter Tryd.func56, Tryd.ntmps56
  go_wp2_with (go_at_call 36; refine (between_any _ _ _ _).mono ?_; rintro e w' ⟨rfl, rfl⟩)
  go_ret
  exact ⟨rfl, (Below.refl _ _).alloc (Nat.le_refl _) _⟩

theorem misread_any (s : Stn) (v m : Value) (w : World) (h0 : 0 ≤ s.rd) (h1 : s.rd ≤ 200) :
    Calls Tryd.prog 57 #[vwV s v m] w fun x w' => x = .returned (spV (-s.rd) s.rd) ∧ Below w.heap.size w w' := by
  go_enter Tryd.func57, Tryd.ntmps57
  go_wp2
  refine bodyPost_ret (v := spV (-s.rd) s.rd) (by simp [results, Tryd.results57, go_sem]) rfl ⟨rfl, ?_⟩
  exact ((Below.refl _ _).alloc (Nat.le_refl _) _).alloc (by simp) _

theorem around_any (m sl : Int) (w : World) (h0 : -10000000 ≤ m) (h1 : m ≤ 10000000) (h2 : 0 ≤ sl) (h3 : sl ≤ 1000) :
    Calls Tryd.prog 67 #[.int .i64 m, .int .i64 sl] w fun x w' => x = .returned (spV (m - sl) (m + sl)) ∧ Below w.heap.size w w' := by
  go_enter Tryd.func67, Tryd.ntmps67
  go_wp2
  refine bodyPost_ret (v := spV (m - sl) (m + sl)) (by simp [results, Tryd.results67, go_sem]) rfl ⟨rfl, ?_⟩
  exact (Below.refl _ _).alloc (Nat.le_refl _) _

theorem look_any {s : Stn} {v : Value} {cs : List Chk} {w : World} (hv : ∃ A n c, v = .slice A n c) :
    Calls Tryd.prog 30 #[stV s v] w fun x w' => ∃ M, x = .returned (vwV s v (.map (some M))) ∧ Below w.heap.size w w' ∧ w.heap.size ≤ M ∧ Cache w' M 0 s cs := by
  obtain ⟨A, k, c, rfl⟩ := hv
  have hmm := @run_makeMap Tryd.prog
  have hmd : ∀ M, Cache ((((w.alloc (.cells #[.int .i64 s.hl, .int .i64 s.hh, .int .i64 s.gl, .int .i64 s.gh, .int .i64 s.dr, .int .i64 s.rd, .int .i64 s.ea, .int .i64 s.sl, .slice A k c] 26)).alloc (vwBox s (.slice A k c) (.map (some M)))).alloc (.map #[] 0))) (w.heap.size + 1 + 1) 0 s cs := fun M => ⟨_, by have h := World.ownsMap_made ((w.alloc (.cells #[.int .i64 s.hl, .int .i64 s.hh, .int .i64 s.gl, .int .i64 s.gh, .int .i64 s.dr, .int .i64 s.rd, .int .i64 s.ea, .int .i64 s.sl, .slice A k c] 26)).alloc (vwBox s (.slice A k c) (.map (some M)))) Tryd.prog 3 spanR; simpa using h, fun k hk => by cases hk⟩
  have Hmd := Lib.hid hmd
  clear hmd
  go_enter Tryd.func30, Tryd.ntmps30
  go_wp2
  refine bodyPost_ret (v := vwV s (.slice A k c) (.map (some (w.heap.size + 1 + 1)))) (by simp [results, Tryd.results30, go_sem]) rfl ⟨_, rfl, ?_, by omega, Hmd.out _⟩
  exact (((Below.refl _ _).alloc (Nat.le_refl _) _).alloc (by simp) _).alloc (by simp; omega) _

theorem agreed_yes {s : Stn} {v m : Value} {cs : List Chk} {w : World} (hc : Chks w v cs) (hs : Sane s cs) (hag : Agreed s cs) :
    Calls Tryd.prog 31 #[vwV s v m] w fun x w' => x = .returned (.bool true) ∧ Below w.heap.size w w' := by
  have hc1 : Chks (w.alloc (vwBox s v m)) v cs := hc.below ((Below.refl _ _).alloc (Nat.le_refl _) _)
  go_enter Tryd.func31, Tryd.ntmps31
  go_wp2_with (go_at_call 46; refine (clash_agreed hc1 hs hag).mono ?_; rintro e w1 ⟨rfl, hb1⟩)
  go_ret
  exact ⟨rfl, ((Below.refl _ _).alloc (Nat.le_refl _) _).trans (hb1.mono (by simp))⟩

theorem agreed_no {s : Stn} {v m : Value} {cs : List Chk} {w : World} (hc : Chks w v cs) (hs : Sane s cs) {i j : Nat} (hf : First s cs i j) :
    Calls Tryd.prog 31 #[vwV s v m] w fun x w' => x = .returned (.bool false) ∧ Below w.heap.size w w' := by
  have hc1 : Chks (w.alloc (vwBox s v m)) v cs := hc.below ((Below.refl _ _).alloc (Nat.le_refl _) _)
  go_enter Tryd.func31, Tryd.ntmps31
  go_wp2_with (go_at_call 46; refine (clash_first hc1 hs hf).mono ?_; rintro e w1 ⟨rfl, hb1⟩)
  go_ret
  exact ⟨rfl, ((Below.refl _ _).alloc (Nat.le_refl _) _).trans (hb1.mono (by simp))⟩

/-- A reading. -/
structure Rdg where
  day : Int
  mi : Int
  cl : Int
  me : Int
  al : Int
  ah : Int
  dl : Int
  dh : Int
  wl : Int
  wh : Int
@[reducible] def rdV (r : Rdg) : Value := .agg #[.int .i64 r.day, .int .i64 r.mi, .int .i64 r.cl, .int .i64 r.me, .int .i64 r.al, .int .i64 r.ah, .int .i64 r.dl, .int .i64 r.dh, .int .i64 r.wl, .int .i64 r.wh]
@[reducible] def rdBox (r : Rdg) : Obj := .cells #[.int .i64 r.day, .int .i64 r.mi, .int .i64 r.cl, .int .i64 r.me, .int .i64 r.al, .int .i64 r.ah, .int .i64 r.dl, .int .i64 r.dh, .int .i64 r.wl, .int .i64 r.wh] 29
def restB (r : Rdg) : Bool := betw r.day 0 400 && betw r.mi 0 1439 && decide (1 ≤ r.cl) && decide (r.cl ≤ 3) && betw r.me 40000 90000
def readB (r : Rdg) : Bool := withinB r.al r.ah (-300) 500 && withinB r.dl r.dh (-300) 500 && withinB r.wl r.wh (-300) 500 && restB r

set_option maxHeartbeats 1600000 in
theorem soundReading_any (r : Rdg) (w : World) :
    Calls Tryd.prog 29 #[rdV r] w fun x w' => x = .returned (.bool (readB r)) ∧ Below w.heap.size w w' := by
  have i0 : ∀ (a b c d e f : Value) (w : World), (Instr.index 88 (.agg #[a, b, c, d, e, f]) (.int .i64 0)).run Tryd.prog w = .ok (.agg #[a, b]) w := fun _ _ _ _ _ _ _ => by kernel_rfl
  have i1 : ∀ (a b c d e f : Value) (w : World), (Instr.index 88 (.agg #[a, b, c, d, e, f]) (.int .i64 1)).run Tryd.prog w = .ok (.agg #[c, d]) w := fun _ _ _ _ _ _ _ => by kernel_rfl
  have i2 : ∀ (a b c d e f : Value) (w : World), (Instr.index 88 (.agg #[a, b, c, d, e, f]) (.int .i64 2)).run Tryd.prog w = .ok (.agg #[e, f]) w := fun _ _ _ _ _ _ _ => by kernel_rfl
  go_enter Tryd.func29, Tryd.ntmps29
  go_wp2_with fail
  go_loopw [4, 12] (fun _ k wr => (k = .int .i64 0 ∨ (k = .int .i64 1 ∧ withinB r.al r.ah (-300) 500 = true) ∨ (k = .int .i64 2 ∧ withinB r.al r.ah (-300) 500 = true ∧ withinB r.dl r.dh (-300) 500 = true) ∨ (k = .int .i64 3 ∧ withinB r.al r.ah (-300) 500 = true ∧ withinB r.dl r.dh (-300) 500 = true ∧ withinB r.wl r.wh (-300) 500 = true)) ∧ Below (w.heap.size + 1) (w.alloc (rdBox r)) wr) (fun _ k _ => (3 - intOf k).toNat)
  case atStart => exact ⟨.inl rfl, Below.refl _ _⟩
  case round =>
    obtain ⟨hk, hB⟩ := hrel
    have hB' := hB.size
    have H0 : Below w.heap.size w wr := ((Below.refl _ _).alloc (Nat.le_refl _) _).trans (hB.mono (by omega))
    rcases hk with rfl | ⟨rfl, u1⟩ | ⟨rfl, u1, u2⟩ | ⟨rfl, u1, u2, u3⟩
    · cases q : withinB r.al r.ah (-300) 500
      · have Hs := Lib.hid (show false = readB r by simp [readB, q])
        skip
        go_wp2_with (go_at_call 45; refine (within_any _ _ _ _ _).mono ?_; rintro e w1 ⟨rfl, hb1⟩)
        go_ret
        exact ⟨ret_bool Hs.out, (H0.alloc H0.size _).trans (hb1.mono (by have := H0.size; simp; omega))⟩
      · go_wp2_with (go_at_call 45; refine (within_any _ _ _ _ _).mono ?_; rintro e w1 ⟨rfl, hb1⟩)
        go_roundw
        case rel => exact ⟨.inr (.inl ⟨rfl, by first | exact trivial | exact q⟩), (hB.alloc (by simp at hB'; omega) _).trans (hb1.mono (by simp at hB'; simp; omega))⟩
        case measure => simp [intOf]
    · cases q : withinB r.dl r.dh (-300) 500
      · have Hs := Lib.hid (show false = readB r by simp [readB, u1, q])
        clear u1
        go_wp2_with (go_at_call 45; refine (within_any _ _ _ _ _).mono ?_; rintro e w1 ⟨rfl, hb1⟩)
        go_ret
        exact ⟨ret_bool Hs.out, (H0.alloc H0.size _).trans (hb1.mono (by have := H0.size; simp; omega))⟩
      · go_wp2_with (go_at_call 45; refine (within_any _ _ _ _ _).mono ?_; rintro e w1 ⟨rfl, hb1⟩)
        go_roundw
        case rel => exact ⟨.inr (.inr (.inl ⟨rfl, by first | exact trivial | exact u1, by first | exact trivial | exact q⟩)), (hB.alloc (by simp at hB'; omega) _).trans (hb1.mono (by simp at hB'; simp; omega))⟩
        case measure => simp [intOf]
    · cases q : withinB r.wl r.wh (-300) 500
      · have Hs := Lib.hid (show false = readB r by simp [readB, u1, u2, q])
        clear u1 u2
        go_wp2_with (go_at_call 45; refine (within_any _ _ _ _ _).mono ?_; rintro e w1 ⟨rfl, hb1⟩)
        go_ret
        exact ⟨ret_bool Hs.out, (H0.alloc H0.size _).trans (hb1.mono (by have := H0.size; simp; omega))⟩
      · go_wp2_with (go_at_call 45; refine (within_any _ _ _ _ _).mono ?_; rintro e w1 ⟨rfl, hb1⟩)
        go_roundw
        case rel => exact ⟨.inr (.inr (.inr ⟨rfl, by first | exact trivial | exact u1, by first | exact trivial | exact u2, by first | exact trivial | exact q⟩)), (hB.alloc (by simp at hB'; omega) _).trans (hb1.mono (by simp at hB'; simp; omega))⟩
        case measure => simp [intOf]
    · have Hs := Lib.hid (show restB r = readB r by simp [readB, u1, u2, u3])
      have hcx : ∀ o, wr.cell? ⟨w.heap.size, o, none⟩ = (w.alloc (rdBox r)).cell? ⟨w.heap.size, o, none⟩ := fun o => hB.cell (p := ⟨w.heap.size, o, none⟩) (by show w.heap.size < _; omega)
      clear u1 u2 u3 hB hB'
      cases q0 : betw r.day 0 400
      · have Hl := Lib.hid (show false = readB r by rw [← Hs.out]; simp [restB, q0])
        skip
        go_wp2_with (first | (go_at_call 33; refine (soundDay_any _ _).mono ?_; rintro e w' ⟨rfl, rfl⟩) | (go_at_call 36; refine (between_any _ _ _ _).mono ?_; rintro e w' ⟨rfl, rfl⟩))
        go_ret
        exact ⟨ret_bool Hl.out, H0⟩
      cases q1 : betw r.mi 0 1439
      · have Hl := Lib.hid (show false = readB r by rw [← Hs.out]; simp [restB, q0, q1])
        skip
        go_wp2_with (first | (go_at_call 33; refine (soundDay_any _ _).mono ?_; rintro e w' ⟨rfl, rfl⟩) | (go_at_call 36; refine (between_any _ _ _ _).mono ?_; rintro e w' ⟨rfl, rfl⟩))
        go_ret
        exact ⟨ret_bool Hl.out, H0⟩
      cases q2 : decide (1 ≤ r.cl)
      · have Hl := Lib.hid (show false = readB r by rw [← Hs.out]; simp [restB, q0, q1]; simp at q2; omega)
        simp only [decide_eq_false_iff_not] at q2
        go_wp2_with (first | (go_at_call 33; refine (soundDay_any _ _).mono ?_; rintro e w' ⟨rfl, rfl⟩) | (go_at_call 36; refine (between_any _ _ _ _).mono ?_; rintro e w' ⟨rfl, rfl⟩))
        go_ret
        exact ⟨ret_bool Hl.out, H0⟩
      simp only [decide_eq_true_eq] at q2
      cases q3 : decide (r.cl ≤ 3)
      · have Hl := Lib.hid (show false = readB r by rw [← Hs.out]; simp [restB, q0, q1]; simp at q3; omega)
        simp only [decide_eq_false_iff_not] at q3
        go_wp2_with (first | (go_at_call 33; refine (soundDay_any _ _).mono ?_; rintro e w' ⟨rfl, rfl⟩) | (go_at_call 36; refine (between_any _ _ _ _).mono ?_; rintro e w' ⟨rfl, rfl⟩))
        go_ret
        exact ⟨ret_bool Hl.out, H0⟩
      simp only [decide_eq_true_eq] at q3
      cases q4 : betw r.me 40000 90000
      · have Hl := Lib.hid (show false = readB r by rw [← Hs.out]; simp [restB, q0, q1, q4])
        skip
        go_wp2_with (first | (go_at_call 33; refine (soundDay_any _ _).mono ?_; rintro e w' ⟨rfl, rfl⟩) | (go_at_call 36; refine (between_any _ _ _ _).mono ?_; rintro e w' ⟨rfl, rfl⟩))
        go_ret
        exact ⟨ret_bool Hl.out, H0⟩
      have Hl := Lib.hid (show true = readB r by rw [← Hs.out]; simp [restB, q0, q1, q2, q3, q4])
      go_wp2_with (first | (go_at_call 33; refine (soundDay_any _ _).mono ?_; rintro e w' ⟨rfl, rfl⟩) | (go_at_call 36; refine (between_any _ _ _ _).mono ?_; rintro e w' ⟨rfl, rfl⟩))
      go_ret
      exact ⟨ret_bool Hl.out, H0⟩
end Go.Proofs.YtffgcphmakfikaaDoor
