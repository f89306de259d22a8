/- The least and the greatest value of a point of a map, by the program. -/
import Derived.Test.YtpkmojcppdogkaaGreatDoorCn
import Derived.Deep.DeepCutAuto
import Derived.Deep.Cut
import Derived.LoopTactic
set_option linter.unusedVariables false
set_option linter.unusedSimpArgs false
namespace Go.Proofs.YtpkmojcppdogkaaGreatDoor
open Go.RowKit
/-- A station: its point, and the ends of its pressure. -/
structure Sta where
  pt : Int
  lo : Int
  hi : Int
/-- Numbers that are far from all bounds of the machine. -/
def Sta.Good (x : Sta) : Prop := 0 ≤ x.pt ∧ x.pt ≤ 1000000 ∧ -1000000 ≤ x.lo ∧ x.lo ≤ 1000000 ∧ -1000000 ≤ x.hi ∧ x.hi ≤ 1000000
@[reducible] def stBox (x : Sta) : Obj := .cells #[.int .i64 x.pt, .int .i64 x.lo, .int .i64 x.hi] 43
/-- The cells of stations in a row of memory. -/
def StasAt (w : World) (b off : Nat) (cs : List Sta) : Prop :=
  ∀ i c, cs[i]? = some c → w.cell? ⟨b, off + i * 3, none⟩ = some (.int .i64 c.pt) ∧ w.cell? ⟨b, off + i * 3 + 1, none⟩ = some (.int .i64 c.lo) ∧ w.cell? ⟨b, off + i * 3 + 2, none⟩ = some (.int .i64 c.hi)

/-- A slice that reads as a list of stations. -/
def Stas (w : World) (v : Value) (cs : List Sta) : Prop :=
  ∃ A cap, v = .slice A cs.length cap ∧ cs.length ≤ cap ∧ cap ≤ maxLen ∧ (cs = [] ∨ ∃ b off, A = some ⟨b, off, none⟩ ∧ b < w.heap.size ∧ StasAt w b off cs)

theorem bcell {W w1 : World} {B : Nat} (hb : Below B W w1) : (∀ b o, b < B → w1.cell? ⟨b, o, none⟩ = W.cell? ⟨b, o, none⟩) ∧ (∀ b o, b < B → w1.frozen? ⟨b, o, none⟩ = W.frozen? ⟨b, o, none⟩) :=
  ⟨fun b o h => hb.cell (p := ⟨b, o, none⟩) h, fun b o h => hb.frozen (p := ⟨b, o, none⟩) h⟩

theorem StasAt.below {w w' : World} {B b off : Nat} {cs : List Sta} (h : StasAt w b off cs) (hb : Below B w w') (hB : b < B) : StasAt w' b off cs := fun i c hc => by
  obtain ⟨h0, h1, h2⟩ := h i c hc
  exact ⟨(hb.cell (p := ⟨b, _, none⟩) hB).trans h0, (hb.cell (p := ⟨b, _, none⟩) hB).trans h1, (hb.cell (p := ⟨b, _, none⟩) hB).trans h2⟩

theorem Stas.below {w w' : World} {v : Value} {cs : List Sta} (h : Stas w v cs) (hb : Below w.heap.size w w') : Stas w' v cs := by
  obtain ⟨A, cap, hv, hl, hm, h⟩ := h
  refine ⟨A, cap, hv, hl, hm, ?_⟩
  rcases h with h | ⟨b, off, hA, hlt, hc⟩
  · exact .inl h
  · exact .inr ⟨b, off, hA, Nat.lt_of_lt_of_le hlt hb.size, hc.below hb hlt⟩

theorem sta_cells {w : World} {A : Option Addr} {c : Nat} {cs : List Sta} {j : Nat} {x : Sta} (h : Stas w (.slice A cs.length c) cs) (hx : cs[j]? = some x) :
    ∃ b off, A = some ⟨b, off, none⟩ ∧ cs.length ≤ c ∧ c ≤ maxLen ∧ w.cell? ⟨b, off + j * 3, none⟩ = some (.int .i64 x.pt) ∧ w.cell? ⟨b, off + j * 3 + 1, none⟩ = some (.int .i64 x.lo) ∧ w.cell? ⟨b, off + j * 3 + 2, none⟩ = some (.int .i64 x.hi) := by
  obtain ⟨A', cap, hv, hl, hm, h⟩ := h
  obtain ⟨rfl, -, rfl⟩ : A = A' ∧ cs.length = cs.length ∧ c = cap := by simpa using hv
  rcases h with rfl | ⟨b, off, hA, hlt, hc⟩
  · simp at hx
  · exact ⟨b, off, hA, hl, hm, hc j x hx⟩

/-- The least value that a point has, by the first stations. -/
def lowestF (wd sl p : Int) (cs : List Sta) : Int := cs.foldl (fun m x => max m (x.lo - sl * distI wd p x.pt)) 0
theorem lowest_snoc (wd sl p : Int) {cs : List Sta} {j : Nat} {x : Sta} (h : cs[j]? = some x) : lowestF wd sl p (cs.take (j + 1)) = (fun m => max m (x.lo - sl * distI wd p x.pt)) (lowestF wd sl p (cs.take j)) := by
  unfold lowestF
  rw [List.take_add_one, h]
  simp
set_option maxHeartbeats 8000000 in
theorem lowest_any (wd rw sl p : Int) (A : Option Addr) (c : Nat) (cs : List Sta) (w : World) (h1 : 1 ≤ wd) (h2 : wd ≤ 1000) (hs : 0 ≤ sl) (hs' : sl ≤ 1000000) (hp : 0 ≤ p) (hp' : p ≤ 1000000) (hg : ∀ x ∈ cs, x.Good) (hc : Stas w (.slice A cs.length c) cs) :
    Calls Tryz.prog 152 #[viewV wd rw sl (.slice A cs.length c), .int .i64 p] w fun e w' => e = .returned (.int .i64 (lowestF wd sl p cs)) ∧ Below w.heap.size w w' := by
  have HC0 := Lib.hid hc
  clear hc
  have hlen : cs.length ≤ maxLen := by
    obtain ⟨A', cap, hv, hl, hm, h⟩ := HC0.out
    omega
  unfold maxLen at hlen
  go_enter Tryz.func152, Tryz.ntmps152
  go_upto_region 2 with fail
  have HR := Lib.hid ((Frm.nil w).add (.cells #[.int .i64 wd, .int .i64 rw, .int .i64 sl, .slice A cs.length c, .int .i64 wd, .int .i64 rw] 87) rfl)
  have x0 := HR.out.cells (List.mem_cons_self ..)
  go_wp2_with fail
  go_loopw [5, 12] (fun m i wr => ∃ j : Nat, j ≤ cs.length ∧ i = .int .i64 j ∧ m = .int .i64 (lowestF wd sl p (cs.take j)) ∧ Frm w [(w.heap.size, (.cells #[.int .i64 wd, .int .i64 rw, .int .i64 sl, .slice A cs.length c, .int .i64 wd, .int .i64 rw] 87))] wr) (fun _ i _ => cs.length - (intOf i).toNat)
  case atStart => exact ⟨0, Nat.zero_le _, rfl, rfl, (by (repeat (with_reducible first | exact HR.out | apply Frm.drew | apply Frm.alloc | apply Frm.drewN)))⟩
  case round =>
    obtain ⟨j, hj, rfl, rfl, hF⟩ := hrel
    clear HR x0
    have HR := Lib.hid hF
    have HC := Lib.hid (HC0.out.below HR.out.b)
    clear hF
    have x0 := HR.out.cells (List.mem_cons_self ..)
    by_cases hjl : j < cs.length
    · obtain ⟨x, hx⟩ : ∃ x, cs[j]? = some x := ⟨_, List.getElem?_eq_getElem hjl⟩
      obtain ⟨b, off, hA, hcap, hm, c0, c1, c2⟩ := sta_cells HC.out hx
      unfold maxLen at hm
      subst hA
      obtain ⟨g0, g1, g2, g3, g4, g5⟩ := hg x (List.mem_of_getElem? hx)
      have HS := Lib.hid (lowest_snoc wd sl p hx)
      obtain ⟨d0, d1, d2, d3⟩ := dist_bd (wd := wd) h1 hp hp' g0 g1
      have p0 : 0 ≤ sl * distI wd p x.pt := Int.mul_nonneg hs (by unfold distI; omega)
      have p1 : sl * distI wd p x.pt ≤ 1000000 * 2000000 := Int.mul_le_mul hs' (by unfold distI; omega) (by unfold distI; omega) (by omega)
      have HD := Lib.hid (fun W => change_any wd rw sl p x.pt (.slice (some ⟨b, off, none⟩) cs.length c) W h1 h2 hs hs' hp hp' g0 g1)
      clear d0 d1 d2 d3 hx
      generalize sl * distI wd p x.pt = q at *
      have e1 : IntKind.i64.wrap (x.lo - q) = x.lo - q := IntWalk.i64_in _ (by omega)
      generalize lowestF wd sl p (cs.take j) = m0 at *
      go_upto_region 5 with fail
      have HRq := Lib.hid (HR.out.add (stBox x) rfl)
      clear HR HC x0 c0 c1 c2
      have HR := HRq
      clear HRq
      have x0 := HR.out.cells (List.mem_cons_self ..)
      have x1 := HR.out.cells (List.mem_cons_of_mem _ (List.mem_cons_self ..))
      go_region_held3 (fun w' => (∀ o, w'.cell? ⟨wr.heap.size, o, none⟩ = #[Value.int .i64 x.pt, .int .i64 x.lo, .int .i64 x.hi][o]?) ∧ (∀ o, w'.cell? ⟨w.heap.size, o, none⟩ = #[Value.int .i64 wd, .int .i64 rw, .int .i64 sl, .slice (some ⟨b, off, none⟩) cs.length c, .int .i64 wd, .int .i64 rw][o]?)) ((exact (fun hF : Frm w [(wr.heap.size, (stBox x)), (w.heap.size, (.cells #[.int .i64 wd, .int .i64 rw, .int .i64 sl, .slice (some ⟨b, off, none⟩) cs.length c, .int .i64 wd, .int .i64 rw] 87))] _ => ⟨hF.cells (List.mem_cons_self ..), hF.cells (List.mem_cons_of_mem _ (List.mem_cons_self ..))⟩) (by (repeat (with_reducible first | exact HR.out | apply Frm.drew | apply Frm.alloc | apply Frm.drewN))))) (first | (go_at_call 151; refine (HD.out _).mono ?_; rintro e wa ⟨rfl, hba⟩; have HRq := Lib.hid (Frm.below (w := w) (bs := [(wr.heap.size, (stBox x)), (w.heap.size, (.cells #[.int .i64 wd, .int .i64 rw, .int .i64 sl, .slice (some ⟨b, off, none⟩) cs.length c, .int .i64 wd, .int .i64 rw] 87))]) (by (repeat (with_reducible first | exact HR.out | apply Frm.drew | apply Frm.alloc | apply Frm.drewN))) hba); clear HR; have HR := HRq; clear HRq hba) | (go_at_call 118; refine (greatest_two _ (x.lo - q) _ _ _ (by go_simp)).mono ?_; rintro e wa ⟨rfl, rfl⟩))
      all_goals
        go_wp2_with fail
        go_roundw
        case rel => exact ⟨j + 1, by omega, by go_num, by rw [HS.out], Frm.less (bs := [(wr.heap.size, (stBox x)), (w.heap.size, (.cells #[.int .i64 wd, .int .i64 rw, .int .i64 sl, .slice (some ⟨b, off, none⟩) cs.length c, .int .i64 wd, .int .i64 rw] 87))]) (by (repeat (with_reducible first | exact HR.out | apply Frm.drew | apply Frm.alloc | apply Frm.drewN))) (fun p hp => by simp only [List.mem_cons, List.not_mem_nil, or_false] at hp; subst hp; simp)⟩
        case measure => simp [intOf]; omega
    · obtain rfl : j = cs.length := by omega
      have HT := Lib.hid (show cs.take cs.length = cs from List.take_length)
      go_wp2_with fail
      go_ret
      exact ⟨ret_int (by rw [HT.out]), HR.out.b⟩

/-- The greatest value that a point has, by the first stations. -/
def highestF (wd sl p : Int) (cs : List Sta) : Int := cs.foldl (fun m x => min m (x.hi + sl * distI wd p x.pt)) 99999
theorem highest_snoc (wd sl p : Int) {cs : List Sta} {j : Nat} {x : Sta} (h : cs[j]? = some x) : highestF wd sl p (cs.take (j + 1)) = (fun m => min m (x.hi + sl * distI wd p x.pt)) (highestF wd sl p (cs.take j)) := by
  unfold highestF
  rw [List.take_add_one, h]
  simp
set_option maxHeartbeats 8000000 in
theorem highest_any (wd rw sl p : Int) (A : Option Addr) (c : Nat) (cs : List Sta) (w : World) (h1 : 1 ≤ wd) (h2 : wd ≤ 1000) (hs : 0 ≤ sl) (hs' : sl ≤ 1000000) (hp : 0 ≤ p) (hp' : p ≤ 1000000) (hg : ∀ x ∈ cs, x.Good) (hc : Stas w (.slice A cs.length c) cs) :
    Calls Tryz.prog 153 #[viewV wd rw sl (.slice A cs.length c), .int .i64 p] w fun e w' => e = .returned (.int .i64 (highestF wd sl p cs)) ∧ Below w.heap.size w w' := by
  have HC0 := Lib.hid hc
  clear hc
  have hlen : cs.length ≤ maxLen := by
    obtain ⟨A', cap, hv, hl, hm, h⟩ := HC0.out
    omega
  unfold maxLen at hlen
  go_enter Tryz.func153, Tryz.ntmps153
  go_upto_region 2 with fail
  have HR := Lib.hid ((Frm.nil w).add (.cells #[.int .i64 wd, .int .i64 rw, .int .i64 sl, .slice A cs.length c, .int .i64 wd, .int .i64 rw] 87) rfl)
  have x0 := HR.out.cells (List.mem_cons_self ..)
  go_wp2_with fail
  go_loopw [5, 12] (fun m i wr => ∃ j : Nat, j ≤ cs.length ∧ i = .int .i64 j ∧ m = .int .i64 (highestF wd sl p (cs.take j)) ∧ Frm w [(w.heap.size, (.cells #[.int .i64 wd, .int .i64 rw, .int .i64 sl, .slice A cs.length c, .int .i64 wd, .int .i64 rw] 87))] wr) (fun _ i _ => cs.length - (intOf i).toNat)
  case atStart => exact ⟨0, Nat.zero_le _, rfl, rfl, (by (repeat (with_reducible first | exact HR.out | apply Frm.drew | apply Frm.alloc | apply Frm.drewN)))⟩
  case round =>
    obtain ⟨j, hj, rfl, rfl, hF⟩ := hrel
    clear HR x0
    have HR := Lib.hid hF
    have HC := Lib.hid (HC0.out.below HR.out.b)
    clear hF
    have x0 := HR.out.cells (List.mem_cons_self ..)
    by_cases hjl : j < cs.length
    · obtain ⟨x, hx⟩ : ∃ x, cs[j]? = some x := ⟨_, List.getElem?_eq_getElem hjl⟩
      obtain ⟨b, off, hA, hcap, hm, c0, c1, c2⟩ := sta_cells HC.out hx
      unfold maxLen at hm
      subst hA
      obtain ⟨g0, g1, g2, g3, g4, g5⟩ := hg x (List.mem_of_getElem? hx)
      have HS := Lib.hid (highest_snoc wd sl p hx)
      obtain ⟨d0, d1, d2, d3⟩ := dist_bd (wd := wd) h1 hp hp' g0 g1
      have p0 : 0 ≤ sl * distI wd p x.pt := Int.mul_nonneg hs (by unfold distI; omega)
      have p1 : sl * distI wd p x.pt ≤ 1000000 * 2000000 := Int.mul_le_mul hs' (by unfold distI; omega) (by unfold distI; omega) (by omega)
      have HD := Lib.hid (fun W => change_any wd rw sl p x.pt (.slice (some ⟨b, off, none⟩) cs.length c) W h1 h2 hs hs' hp hp' g0 g1)
      clear d0 d1 d2 d3 hx
      generalize sl * distI wd p x.pt = q at *
      have e1 : IntKind.i64.wrap (x.hi + q) = x.hi + q := IntWalk.i64_in _ (by omega)
      generalize highestF wd sl p (cs.take j) = m0 at *
      go_upto_region 5 with fail
      have HRq := Lib.hid (HR.out.add (stBox x) rfl)
      clear HR HC x0 c0 c1 c2
      have HR := HRq
      clear HRq
      have x0 := HR.out.cells (List.mem_cons_self ..)
      have x1 := HR.out.cells (List.mem_cons_of_mem _ (List.mem_cons_self ..))
      go_region_held3 (fun w' => (∀ o, w'.cell? ⟨wr.heap.size, o, none⟩ = #[Value.int .i64 x.pt, .int .i64 x.lo, .int .i64 x.hi][o]?) ∧ (∀ o, w'.cell? ⟨w.heap.size, o, none⟩ = #[Value.int .i64 wd, .int .i64 rw, .int .i64 sl, .slice (some ⟨b, off, none⟩) cs.length c, .int .i64 wd, .int .i64 rw][o]?)) ((exact (fun hF : Frm w [(wr.heap.size, (stBox x)), (w.heap.size, (.cells #[.int .i64 wd, .int .i64 rw, .int .i64 sl, .slice (some ⟨b, off, none⟩) cs.length c, .int .i64 wd, .int .i64 rw] 87))] _ => ⟨hF.cells (List.mem_cons_self ..), hF.cells (List.mem_cons_of_mem _ (List.mem_cons_self ..))⟩) (by (repeat (with_reducible first | exact HR.out | apply Frm.drew | apply Frm.alloc | apply Frm.drewN))))) (first | (go_at_call 151; refine (HD.out _).mono ?_; rintro e wa ⟨rfl, hba⟩; have HRq := Lib.hid (Frm.below (w := w) (bs := [(wr.heap.size, (stBox x)), (w.heap.size, (.cells #[.int .i64 wd, .int .i64 rw, .int .i64 sl, .slice (some ⟨b, off, none⟩) cs.length c, .int .i64 wd, .int .i64 rw] 87))]) (by (repeat (with_reducible first | exact HR.out | apply Frm.drew | apply Frm.alloc | apply Frm.drewN))) hba); clear HR; have HR := HRq; clear HRq hba) | (go_at_call 176; refine (least_two _ (x.hi + q) _ _ _ (by go_simp)).mono ?_; rintro e wa ⟨rfl, rfl⟩))
      all_goals
        go_wp2_with fail
        go_roundw
        case rel => exact ⟨j + 1, by omega, by go_num, by rw [HS.out], Frm.less (bs := [(wr.heap.size, (stBox x)), (w.heap.size, (.cells #[.int .i64 wd, .int .i64 rw, .int .i64 sl, .slice (some ⟨b, off, none⟩) cs.length c, .int .i64 wd, .int .i64 rw] 87))]) (by (repeat (with_reducible first | exact HR.out | apply Frm.drew | apply Frm.alloc | apply Frm.drewN))) (fun p hp => by simp only [List.mem_cons, List.not_mem_nil, or_false] at hp; subst hp; simp)⟩
        case measure => simp [intOf]; omega
    · obtain rfl : j = cs.length := by omega
      have HT := Lib.hid (show cs.take cs.length = cs from List.take_length)
      go_wp2_with fail
      go_ret
      exact ⟨ret_int (by rw [HT.out]), HR.out.b⟩
end Go.Proofs.YtpkmojcppdogkaaGreatDoor
