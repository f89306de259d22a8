/- The neighbours of a point, as the program goes through them; the deferred calls of ranges that have ended. -/
import Derived.Test.YtpkmojcppdogkaaGreatDoorCrf
import Derived.Test.YtpkmojcppdogkaaGreatDoorCq
set_option linter.unusedVariables false
set_option linter.unusedSimpArgs false
namespace Go.Proofs.YtpkmojcppdogkaaGreatDoor
open Go.RowKit
open Go.Shelf
attribute [local go_sem] Oper.semAt_some
theorem grownBy_of_below {W W' : World} (h : Below W.heap.size W W') : W.grownBy W' none := ⟨h.os, h.tape, h.output, h.size, fun k hk _ => h.block k hk⟩
/-- Deferred calls of ranges over functions that have ended: each is a block that holds none. -/
def Marks (w : World) (B : Nat) (ds : List Deferred) : Prop :=
  ∃ l : List Nat, ds = l.map (fun D => { target := .collected D, args := #[] }) ∧ l.Nodup ∧ ∀ D ∈ l, B ≤ D ∧ w.heap[D]? = some (.deferred (some []))
theorem Marks.nil (w : World) (B : Nat) : Marks w B [] := ⟨[], rfl, List.nodup_nil, by simp⟩
theorem Marks.lt {w : World} {B : Nat} {l : List Nat} (h : ∀ D ∈ l, B ≤ D ∧ w.heap[D]? = some (.deferred (some []))) : ∀ D ∈ l, D < w.heap.size := fun D hD => (Array.getElem?_eq_some_iff.1 (h D hD).2).1
theorem Marks.add {w : World} {B D : Nat} {ds : List Deferred} (h : Marks w B ds) (hB : B ≤ D) (hD : w.heap[D]? = some (.deferred (some []))) (hn : ∀ d ∈ ds, d.target ≠ .collected D) : Marks w B ({ target := .collected D, args := #[] } :: ds) := by
  obtain ⟨l, rfl, hl, ha⟩ := h
  refine ⟨D :: l, rfl, List.nodup_cons.2 ⟨fun hm => hn _ (List.mem_map.2 ⟨D, hm, rfl⟩) rfl, hl⟩, fun E hE => ?_⟩
  rcases List.mem_cons.1 hE with rfl | hE
  · exact ⟨hB, hD⟩
  · exact ha E hE
/-- What the deferred calls of ranges do when a function returns: nothing but that their blocks are taken. -/
theorem leaves_marks {F : Fence} {n : Nat} {fn : Func} {tmps : Array Value} {R : Ending → World → Prop} {B : Nat} : ∀ {l : List Nat} {w : World}, l.Nodup → (∀ D ∈ l, B ≤ D ∧ w.heap[D]? = some (.deferred (some []))) →
    (∀ w', Below B w w' → (∀ k, k ∉ l → w'.heap[k]? = w.heap[k]?) → ∃ v, (results fn tmps).run Tryz.prog w' = .ok v w' ∧ R (.returned v) w') → LeavesInM F n Tryz.prog fn tmps R (l.map (fun D => { target := .collected D, args := #[] })) .returning w
  | [], w, _, _, hk => by
    obtain ⟨v, h1, h2⟩ := hk w (Below.refl _ _) (fun _ _ => rfl)
    exact ⟨v, h1, by first | exact h2 | simpa using h2⟩
  | D :: l, w, hl, ha, hk => by
    have hD := ha D (List.mem_cons_self ..)
    have hnl := List.nodup_cons.1 hl
    refine ⟨by simp, .inl ⟨D, _, rfl, run_takeDeferred hD.2, ?_⟩⟩
    have hgf := grownBy_putObj' w D (.deferred none)
    have hlt := (Array.getElem?_eq_some_iff.1 hD.2).1
    have hoth : ∀ k, k ≠ D → (w.putObj D (.deferred none)).heap[k]? = w.heap[k]? := fun k hk => by
      simp [World.putObj, Array.getElem?_setIfInBounds, Ne.symm hk]
    refine leaves_marks (B := B) hnl.2 (fun E hE => ⟨(ha E (List.mem_cons_of_mem _ hE)).1, ?_⟩) fun w' hb hs => hk w' ?_ fun k hkn => ?_
    · exact (hoth E (fun e => hnl.1 (e ▸ hE))).trans (ha E (List.mem_cons_of_mem _ hE)).2
    · exact ((Below.refl B w).grown hgf (by omega) (fun k e => by cases e; exact hD.1)).trans hb
    · exact (hs k fun h => hkn (List.mem_cons_of_mem _ h)).trans (hoth k fun e => hkn (e ▸ List.mem_cons_self ..))
/-- The neighbours of a point. -/
def NbT (wd : Int) (N p : Nat) : Type := { q : Nat // q < N ∧ distI wd p q = 1 }
def NbT.mk {wd : Int} {N p : Nat} (q : Nat) (h : q < N) (h' : distI wd p q = 1) : NbT wd N p := ⟨q, h, h'⟩
def NbT.q {wd : Int} {N p : Nat} (x : NbT wd N p) : Nat := x.1
set_option maxHeartbeats 1600000 in
set_option maxRecDepth 100000 in
theorem nb1_in (n : Nat) (hn : 1 ≤ n) (wd rw : Int) (N p : Nat) (h1 : 1 ≤ wd) (h2 : wd ≤ 1000) (hN : wd * rw = (N : Int)) (hN2 : N ≤ 100) (hp : p < N) (l G P n₀ : Nat) (hG : G < n₀) (hP : P < n₀)
    (J Jx : List (NbT wd N p) → World → Prop) (W : World) (hn₀ : n₀ ≤ W.heap.size) (hJ : AbidesFrom W.heap.size J)
    (hY : ∀ pre x W, J pre W → pre.length < 1000 → YieldAt Fence.wide (n - 1) Tryz.prog l #[.int .i64 x.q] W fun e W' =>
      (e = .returned (.bool true) ∧ J (pre ++ [x]) W' ∧ Below n₀ W W') ∨ (e = .returned (.bool false) ∧ Jx (pre ++ [x]) W'))
    (hg : W.heap[G]? = some (.cells #[.int .i64 wd, .int .i64 rw] 85)) (hpb : W.heap[P]? = some (.cells #[.int .i64 (p : Int)] 3)) (h0 : J [] W) :
    CallsIn Fence.wide n Tryz.prog 116 #[.func (.yield l) #[] #[], .pointer (some ⟨G, 0, none⟩), .pointer (some ⟨P, 0, none⟩)] W fun e W' => (∃ v, e = .returned v) ∧
      ((∃ ys, (∀ y : NbT wd N p, y ∈ ys) ∧ J ys W') ∨ (∃ pre, True ∧ Jx pre W')) := by
  have HGB := Lib.hid hg
  have HPB := Lib.hid hpb
  have g1 := (boxCells hg).1
  have p1 := (boxCells hpb).1
  have e1 : IntKind.i64.wrap (wd * rw) = (N : Int) := by rw [hN]; exact IntWalk.i64_in _ (by omega)
  have HPT : Hid (∀ V, Calls Tryz.prog 89 #[.agg #[.int .i64 wd, .int .i64 rw]] V fun e w' => e = .returned (.int .i64 (N : Int)) ∧ Below V.heap.size V w') := Lib.hid (fun V => by
    go_enter Tryz.func89, Tryz.ntmps89
    go_wp2
    go_ret
    exact ⟨ret_int (by omega), (Below.refl _ _).alloc (Nat.le_refl _) _⟩)
  clear hg hpb e1 hN
  refine callsIn_of_wp Tryz.func116 rfl trivial ?_ rfl
  simp only [Tryz.ntmps116, List.size_toArray, List.length_cons, List.length_nil, Nat.reduceAdd, Nat.reduceSub, Array.replicate_succ, Array.replicate_zero, List.push_toArray, List.append_toArray, List.nil_append, List.cons_append]
  gi_wp2_with (refine ⟨trivial, ?_⟩; gi_at_call 89; refine (callsIn_wide.2 (HPT.out _)).mono ?_; rintro e w1 ⟨rfl, hb1⟩)
  have HB1 := Lib.hid hb1
  have hz1 := hb1.size
  clear hb1 g1 p1
  gi_loopw [4, 7] (fun _ i wr => ∃ (q : Nat) (pre : List (NbT wd N p)), q ≤ N ∧ i = .int .i64 q ∧ J pre wr ∧ pre.length ≤ q ∧ (∀ y : NbT wd N p, y.q < q → y ∈ pre) ∧ Below n₀ W wr) (fun _ i _ => N - (intOf i).toNat)
  case atStart => exact ⟨0, [], Nat.zero_le _, rfl, hJ _ W w1 none h0 (grownBy_of_below HB1.out) (by simp), Nat.le_refl _, fun y h => absurd h (Nat.not_lt_zero _), HB1.out.mono hn₀⟩
  case round =>
    obtain ⟨q, pre, hq, rfl, hJ0, hL, hA, hb⟩ := hrel
    have HJ0 := Lib.hid hJ0
    have HA := Lib.hid hA
    have HB := Lib.hid hb
    have hwz := hb.size
    have g1 := (boxCells ((hb.block G hG).trans HGB.out)).1
    have p1 := (boxCells ((hb.block P hP).trans HPB.out)).1
    clear hJ0 hA hb
    by_cases hql : q < N
    · have HD := Lib.hid (fun V => distance_any wd rw (p : Int) (q : Int) V h1 h2 (by omega) (by omega) (by omega) (by omega))
      by_cases hd : distI wd p q = 1
      · rw [hd] at HD
        have Hd := Lib.hid hd
        clear hd
        gi_wp2_with (refine ⟨trivial, ?_⟩; gi_at_call 117; refine (callsIn_wide.2 (HD.out _)).mono ?_; rintro e w2 ⟨rfl, hb2⟩; have HB2 := Lib.hid hb2; obtain ⟨fn, tmps, assign, body, hy, hR⟩ := hY pre (NbT.mk q hql Hd.out) w2 (hJ _ wr w2 none HJ0.out (grownBy_of_below hb2) (by simp)) (by omega); dsimp only [NbT.q, NbT.mk] at hy; have HR := Lib.hid hR; clear hR hb2)
        refine HR.out.mono ?_
        rintro e W3 (⟨rfl, hJ3, hk3⟩ | ⟨rfl, hJx3⟩)
        · have HJ3 := Lib.hid hJ3
          have HK3 := Lib.hid hk3
          clear hJ3 hk3
          gi_wp2
          go_roundw
          case rel => exact ⟨q + 1, _, by omega, by go_num, HJ3.out, by rw [List.length_append, List.length_singleton]; omega, fun y h => by
            rcases Nat.lt_or_ge y.q q with h3 | h3
            · exact List.mem_append_left _ (HA.out y h3)
            · have e : y = NbT.mk q hql Hd.out := Subtype.ext (show y.q = q by omega)
              rw [e]; exact List.mem_append_right _ (List.mem_singleton.2 rfl), (HB.out.trans (HB2.out.mono (by omega))).trans HK3.out⟩
          case measure => simp [intOf]; omega
        · have HJx3 := Lib.hid hJx3
          clear hJx3
          gi_wp2
          refine bodyPost_ret (results_none rfl _ _ _) rfl ?_
          exact ⟨⟨_, rfl⟩, .inr ⟨_, trivial, HJx3.out⟩⟩
      · have hd' : (distI wd p q == 1) = false := by simp [hd]
        have Hd := Lib.hid hd
        obtain ⟨dd, hdd⟩ : ∃ dd, dd = distI wd p q := ⟨_, rfl⟩
        rw [← hdd] at HD hd hd'
        clear hdd
        have hd2 : decide (dd = 1) = false := decide_eq_false hd
        gi_wp2_with (refine ⟨trivial, ?_⟩; gi_at_call 117; refine (callsIn_wide.2 (HD.out _)).mono ?_; rintro e w2 ⟨rfl, hb2⟩; have HB2 := Lib.hid hb2; clear hb2)
        refine And.intro (fun f h => nomatch h) ?_
        gi_wp2
        go_roundw
        case rel => exact ⟨q + 1, pre, by omega, by go_num, hJ _ wr w2 none HJ0.out (grownBy_of_below HB2.out) (by simp), by omega, fun y h => by
          rcases Nat.lt_or_ge y.q q with h3 | h3
          · exact HA.out y h3
          · exact absurd (by have := y.2.2; rwa [show y.1 = q from (by have : y.q = q := by omega
                                                                       exact this)] at this) Hd.out, HB.out.trans (HB2.out.mono (by omega))⟩
        case measure => simp [intOf]; omega
    · gi_wp2
      go_end0
      exact ⟨⟨_, rfl⟩, .inl ⟨pre, fun y => HA.out y (Nat.lt_of_lt_of_le y.2.1 (by omega)), HJ0.out⟩⟩
end Go.Proofs.YtpkmojcppdogkaaGreatDoor
