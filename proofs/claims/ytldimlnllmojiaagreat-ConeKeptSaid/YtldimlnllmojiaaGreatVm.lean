/- Part of a claim on cone. -/
import Derived.Test.YtldimlnllmojiaaGreatVl
set_option linter.unusedVariables false
set_option linter.unusedSimpArgs false
namespace Go.Proofs.YtldimlnllmojiaaGreat
open Go.RowKit
open Go.Shelf
def tellsB (fall : Int) (ls : List Lnk) (x y : Rep) : Bool :=
  if x.st = y.st then decide (x.tk < y.tk) && decide (fall ≤ x.pr - y.pr) else ls.any fun l => decide (l.a = x.st) && decide (l.b = y.st) && decide (l.df ≤ farI x.pr y.pr)
def alarmB (fall win : Int) (ls : List Lnk) (x y : Rep) : Bool := decide (farI x.tk y.tk ≤ win) && (tellsB fall ls x y || tellsB fall ls y x)
def alarmR (fall win : Int) (ls : List Lnk) (x y : Rep) : Bool :=
  decide (farI x.tk y.tk ≤ win) &&
    (if x.st = y.st then (decide (x.tk < y.tk) && decide (fall ≤ x.pr - y.pr)) || (decide (y.tk < x.tk) && decide (fall ≤ y.pr - x.pr))
     else ls.any fun l => ((decide (l.a = x.st) && decide (l.b = y.st)) || (decide (l.a = y.st) && decide (l.b = x.st))) && decide (l.df ≤ farI x.pr y.pr))
theorem farI_comm (a b : Int) : farI a b = farI b a := by unfold farI; omega
theorem any_or {α : Type} (l : List α) (p q : α → Bool) : (l.any fun x => p x || q x) = (l.any p || l.any q) := by
  induction l with
  | nil => rfl
  | cons x l ih => simp only [List.any_cons, ih]; cases p x <;> cases q x <;> simp
theorem alarm_eq (fall win : Int) (ls : List Lnk) (x y : Rep) : alarmB fall win ls x y = alarmR fall win ls x y := by
  unfold alarmB alarmR tellsB
  congr 1
  by_cases h : x.st = y.st
  · rw [if_pos h, if_pos h.symm, if_pos h]
  · rw [if_neg h, if_neg (fun e => h e.symm), if_neg h, ← any_or]
    congr 1
    funext l
    rw [farI_comm y.pr x.pr]
    cases decide (l.a = x.st) <;> cases decide (l.b = y.st) <;> cases decide (l.a = y.st) <;> cases decide (l.b = x.st) <;> cases decide (l.df ≤ farI x.pr y.pr) <;> rfl
def comeF (x y : Rep) (dx dy : Int) : Int := max (x.tk + dx) (y.tk + dy)
def tillF (hold : Int) (x y : Rep) : Int := max x.tk y.tk + hold - 1
def repAt (rs : List Rep) (i : Nat) : Rep := rs.getD i ⟨0, 0, 0, 0, 0, 0, 0⟩
theorem repAt_some {rs : List Rep} {i : Nat} {x : Rep} (h : rs[i]? = some x) : repAt rs i = x := by unfold repAt; rw [List.getD_eq_getElem?_getD, h]; rfl
theorem some_repAt {rs : List Rep} {i : Nat} (h : i < rs.length) : rs[i]? = some (repAt rs i) := by
  obtain ⟨x, hx⟩ : ∃ x, rs[i]? = some x := ⟨_, List.getElem?_eq_getElem h⟩
  rw [hx, repAt_some hx]
theorem repAt_mem {rs : List Rep} {i : Nat} (h : i < rs.length) : repAt rs i ∈ rs := List.mem_of_getElem? (some_repAt h)
def alF (m : Wn) (ls : List Lnk) (rs : List Rep) (i k : Nat) : Bool := alarmB m.fall m.win ls (repAt rs i) (repAt rs k)
def rowP (i q : Nat) : List (Nat × Nat) := ((List.range q).filter fun k => decide (i < k)).map fun k => (i, k)
def pairsTo (n p : Nat) : List (Nat × Nat) := (List.range p).flatMap fun i => rowP i n
theorem rowP_next {i q : Nat} (h : i < q) : rowP i (q + 1) = rowP i q ++ [(i, q)] := by
  unfold rowP
  rw [List.range_succ, List.filter_append, List.map_append]
  simp [h]
theorem rowP_none {i q : Nat} (h : q ≤ i + 1) : rowP i q = [] := by
  unfold rowP
  rw [List.filter_eq_nil_iff.2 (fun k hk => by have := List.mem_range.1 hk; simp; omega)]
  rfl
theorem pairsTo_next (n p : Nat) : pairsTo n (p + 1) = pairsTo n p ++ rowP p n := by
  unfold pairsTo
  rw [List.range_succ, List.flatMap_append]
  simp
theorem mem_rowP {i q : Nat} {x : Nat × Nat} : x ∈ rowP i q ↔ x.1 = i ∧ i < x.2 ∧ x.2 < q := by
  unfold rowP
  simp only [List.mem_map, List.mem_filter, List.mem_range, decide_eq_true_eq]
  constructor
  · rintro ⟨k, ⟨h1, h2⟩, rfl⟩; exact ⟨rfl, h2, h1⟩
  · rintro ⟨h1, h2, h3⟩; exact ⟨x.2, ⟨h3, h2⟩, by rw [← h1]⟩
theorem mem_pairsTo {n p : Nat} {x : Nat × Nat} : x ∈ pairsTo n p ↔ x.1 < p ∧ x.1 < x.2 ∧ x.2 < n := by
  unfold pairsTo
  simp only [List.mem_flatMap, List.mem_range, mem_rowP]
  constructor
  · rintro ⟨i, h1, rfl, h2, h3⟩; exact ⟨h1, h2, h3⟩
  · rintro ⟨h1, h2, h3⟩; exact ⟨x.1, h1, rfl, h2, h3⟩
def alL (m : Wn) (ls : List Lnk) (rs : List Rep) : List (Nat × Nat) := (pairsTo rs.length rs.length).filter fun p => alF m ls rs p.1 p.2
theorem mem_alL {m : Wn} {ls : List Lnk} {rs : List Rep} {x : Nat × Nat} : x ∈ alL m ls rs ↔ x.1 < x.2 ∧ x.2 < rs.length ∧ alF m ls rs x.1 x.2 = true := by
  unfold alL
  simp only [List.mem_filter, mem_pairsTo]
  constructor
  · rintro ⟨⟨h1, h2, h3⟩, h4⟩; exact ⟨h2, h3, h4⟩
  · rintro ⟨h1, h2, h3⟩; exact ⟨⟨by omega, h1, h2⟩, h3⟩
def spOf (m : Wn) (rs : List Rep) (d : Nat → Int) (p : Nat × Nat) : Int × Int := (comeF (repAt rs p.1) (repAt rs p.2) (d p.1) (d p.2), tillF m.hold (repAt rs p.1) (repAt rs p.2))
def spsOf (m : Wn) (rs : List Rep) (d : Nat → Int) (l : List (Nat × Nat)) : List (Int × Int) := (l.map (spOf m rs d)).filter fun x => decide (x.1 ≤ x.2)
theorem spsOf_snoc (m : Wn) (rs : List Rep) (d : Nat → Int) (l : List (Nat × Nat)) (p : Nat × Nat) : spsOf m rs d (l ++ [p]) = spsOf m rs d l ++ (if (spOf m rs d p).1 ≤ (spOf m rs d p).2 then [spOf m rs d p] else []) := by
  unfold spsOf
  rw [List.map_append, List.filter_append]
  by_cases h : (spOf m rs d p).1 ≤ (spOf m rs d p).2 <;> simp [h]
def siL (m : Wn) (ls : List Lnk) (rs : List Rep) (d : Nat → Int) : List (Int × Int) := spsOf m rs d (alL m ls rs)
theorem mem_siL {m : Wn} {ls : List Lnk} {rs : List Rep} {d : Nat → Int} {x : Int × Int} : x ∈ siL m ls rs d ↔ ∃ p, p ∈ alL m ls rs ∧ x = spOf m rs d p ∧ x.1 ≤ x.2 := by
  unfold siL spsOf
  simp only [List.mem_filter, List.mem_map, decide_eq_true_eq]
  constructor
  · rintro ⟨⟨p, hp, rfl⟩, h⟩; exact ⟨p, hp, rfl, h⟩
  · rintro ⟨p, hp, rfl, h⟩; exact ⟨⟨p, hp, rfl⟩, h⟩
theorem seenB_iff {ss : List (Int × Int)} {t : Int} : seenB ss t = true ↔ ∃ x ∈ ss, x.1 ≤ t ∧ t ≤ x.2 := by
  unfold seenB betw
  simp only [List.any_eq_true, Bool.and_eq_true, decide_eq_true_eq]
theorem seen_al {m : Wn} {ls : List Lnk} {rs : List Rep} {d : Nat → Int} {t : Int} : seenB (siL m ls rs d) t = (alL m ls rs).any fun p => decide ((spOf m rs d p).1 ≤ t) && decide (t ≤ (spOf m rs d p).2) := by
  rw [Bool.eq_iff_iff, seenB_iff]
  simp only [List.any_eq_true, Bool.and_eq_true, decide_eq_true_eq, mem_siL]
  constructor
  · rintro ⟨x, ⟨p, hp, rfl, h⟩, h1, h2⟩; exact ⟨p, hp, h1, h2⟩
  · rintro ⟨p, hp, h1, h2⟩; exact ⟨_, ⟨p, hp, rfl, by omega⟩, h1, h2⟩
theorem seen_mono {m : Wn} {ls : List Lnk} {rs : List Rep} {d e : Nat → Int} {t : Int} (h : ∀ i, i < rs.length → d i ≤ e i) (hs : seenB (siL m ls rs e) t = true) : seenB (siL m ls rs d) t = true := by
  rw [seen_al] at hs ⊢
  simp only [List.any_eq_true, Bool.and_eq_true, decide_eq_true_eq] at hs ⊢
  obtain ⟨p, hp, h1, h2⟩ := hs
  obtain ⟨q1, q2, _⟩ := mem_alL.1 hp
  have a1 := h p.1 (by omega)
  have a2 := h p.2 q2
  refine ⟨p, hp, ?_, h2⟩
  unfold spOf comeF at h1 ⊢
  simp only at h1 ⊢
  omega
theorem soon_fold (l : List (Int × Int)) (a : Int) : (l.foldl (fun m y => min m y.1) a = a ∨ ∃ x ∈ l, l.foldl (fun m y => min m y.1) a = x.1) ∧ l.foldl (fun m y => min m y.1) a ≤ a ∧ ∀ x ∈ l, l.foldl (fun m y => min m y.1) a ≤ x.1 := by
  induction l generalizing a with
  | nil => exact ⟨.inl rfl, Int.le_refl _, by simp⟩
  | cons y l ih =>
    obtain ⟨h1, h2, h3⟩ := ih (min a y.1)
    simp only [List.foldl_cons]
    refine ⟨?_, by omega, fun x hx => ?_⟩
    · rcases h1 with h1 | ⟨x, hx, h1⟩
      · rcases Int.le_total a y.1 with h | h
        · exact .inl (by omega)
        · exact .inr ⟨y, by simp, by omega⟩
      · exact .inr ⟨x, List.mem_cons_of_mem _ hx, h1⟩
    · rcases List.mem_cons.1 hx with rfl | hx
      · omega
      · exact h3 x hx
theorem soon_least {ss : List (Int × Int)} (h : ss ≠ []) : (∃ x ∈ ss, soonF ss = x.1) ∧ ∀ x ∈ ss, soonF ss ≤ x.1 := by
  cases ss with
  | nil => exact absurd rfl h
  | cons y l =>
    obtain ⟨h1, h2, h3⟩ := soon_fold (y :: l) y.1
    have e : soonF (y :: l) = (y :: l).foldl (fun m z => min m z.1) y.1 := rfl
    rw [e]
    rcases h1 with h1 | h1
    · exact ⟨⟨y, by simp, h1⟩, h3⟩
    · exact ⟨h1, h3⟩
theorem soon_congr {m : Wn} {ls : List Lnk} {rs : List Rep} {d e : Nat → Int} (h : ∀ i, i < rs.length → d i = e i) : siL m ls rs d = siL m ls rs e := by
  unfold siL spsOf
  congr 1
  refine List.map_congr_left fun p hp => ?_
  obtain ⟨q1, q2, _⟩ := mem_alL.1 hp
  unfold spOf
  rw [h p.1 (by omega), h p.2 q2]
def tellB (r1 r2 : Rep) (x : Lnk) : Bool := decide (x.a = r1.st) && decide (x.b = r2.st) && decide (x.df ≤ farI r1.pr r2.pr)
set_option maxHeartbeats 2000000 in
set_option maxRecDepth 100000 in
theorem tells1_any (x : Lnk) (r1 r2 : Rep) (D1 D2 : Nat) (w : World) (h1 : w.heap[D1]? = some (repBox r1)) (h2 : w.heap[D2]? = some (repBox r2)) (a1 : 0 ≤ r1.pr) (a2 : r1.pr ≤ 99999) (b1 : 0 ≤ r2.pr) (b2 : r2.pr ≤ 99999) :
    Calls Tryz.prog 112 #[lnkV x, .pointer (some ⟨D1, 0, none⟩), .pointer (some ⟨D2, 0, none⟩)] w fun e w' => e = .returned (.bool (tellB r1 r2 x)) ∧ Below w.heap.size w w' := by
  have l1 : D1 < w.heap.size := (Array.getElem?_eq_some_iff.1 h1).1
  have l2 : D2 < w.heap.size := (Array.getElem?_eq_some_iff.1 h2).1
  have x1 := (boxCells h1).1
  have x2 := (boxCells h2).1
  have HF := Lib.hid (fun W => apart_any r1.pr r2.pr W (by omega) (by omega) (by omega) (by omega))
  have HR0 := Lib.hid (Frm.nil w)
  have HR := Lib.hid ((Frm.nil w).add (lnkBox x) rfl)
  have K1 := Lib.hid h1
  have K2 := Lib.hid h2
  clear h1 h2 a1 a2 b1 b2 x1 x2
  have x0 := HR.out.cells mZ
  have HD1 : ∀ o, (w.alloc (lnkBox x)).cell? ⟨D1, o, none⟩ = _ := (boxCells ((Below.heap_alloc _ _ _ l1).trans K1.out)).1
  have HD2 : ∀ o, (w.alloc (lnkBox x)).cell? ⟨D2, o, none⟩ = _ := (boxCells ((Below.heap_alloc _ _ _ l2).trans K2.out)).1
  by_cases g1 : x.a = r1.st
  rotate_left
  · have HT := Lib.hid (show tellB r1 r2 x = false by simp [tellB, g1])
    go_enter Tryz.func112, Tryz.ntmps112
    go_upto_region 1 with fail
    have HSS : Hid (∀ w', Frm w [(w.heap.size, lnkBox x)] w' → (∀ o, w'.cell? ⟨w.heap.size, o, none⟩ = #[Value.int .i64 x.a, .int .i64 x.b, .int .i64 x.df][o]?) ∧ (∀ o, w'.cell? ⟨D1, o, none⟩ = #[Value.int .i64 r1.st, .int .i64 r1.tk, .int .i64 r1.pr, .int .i64 r1.dlo, .int .i64 r1.dhi, .int .i64 r1.ur, .int .i64 r1.co][o]?) ∧ (∀ o, w'.cell? ⟨D2, o, none⟩ = #[Value.int .i64 r2.st, .int .i64 r2.tk, .int .i64 r2.pr, .int .i64 r2.dlo, .int .i64 r2.dhi, .int .i64 r2.ur, .int .i64 r2.co][o]?)) := Lib.hid fun w' hF => ⟨hF.cells mZ, (boxCells ((hF.b.block _ l1).trans K1.out)).1, (boxCells ((hF.b.block _ l2).trans K2.out)).1⟩
    have g5 : (x.a == r1.st) = false := by simp [g1]
    clear g1
    refine wp_region_held_drew (S := fun w' => (∀ o, w'.cell? ⟨w.heap.size, o, none⟩ = #[Value.int .i64 x.a, .int .i64 x.b, .int .i64 x.df][o]?) ∧ (∀ o, w'.cell? ⟨D1, o, none⟩ = #[Value.int .i64 r1.st, .int .i64 r1.tk, .int .i64 r1.pr, .int .i64 r1.dlo, .int .i64 r1.dhi, .int .i64 r1.ur, .int .i64 r1.co][o]?) ∧ (∀ o, w'.cell? ⟨D2, o, none⟩ = #[Value.int .i64 r2.st, .int .i64 r2.tk, .int .i64 r2.pr, .int .i64 r2.dlo, .int .i64 r2.dhi, .int .i64 r2.ur, .int .i64 r2.co][o]?)) (by kernel_rfl) ?_ (fun hHeld => ?_)
    · (try dsimp only); exact HSS.out _ (by (repeat (with_reducible first | exact HR.out | apply Frm.drew | apply Frm.alloc | apply Frm.drewN)))
    refine wpAnyH_take (i := 0) (oi := ⟨some 5, _, _, _, _, _⟩) (v := ?vq1_0) rfl (by kernel_rfl) (by kernel_rfl) (by kernel_rfl) (fun _ _ _ h => h) (Or.inl ⟨by kernel_rfl, ?hyq1_0⟩) (by assumption) ?restq1_0
    case hyq1_0 => (intro w hSw; (try dsimp only at hSw); go_simp) <;> (with_reducible rfl)
    try simp only [Act.put, List.setIfInBounds_toArray, List.set_cons_zero, List.set_cons_succ]
    refine wpAnyH_take (i := 1) (oi := ⟨some 6, _, _, _, _, _⟩) (v := ?vq1_1) rfl (by kernel_rfl) (by kernel_rfl) (by kernel_rfl) (fun _ _ _ h => h) (Or.inl ⟨by kernel_rfl, ?hyq1_1⟩) (by assumption) ?restq1_1
    case hyq1_1 => (intro w hSw; (try dsimp only at hSw); go_simp) <;> (with_reducible rfl)
    try simp only [Act.put, List.setIfInBounds_toArray, List.set_cons_zero, List.set_cons_succ]
    refine wpAnyH_take (i := 2) (oi := ⟨some 7, _, _, _, _, _⟩) (v := ?vq1_2) rfl (by kernel_rfl) (by kernel_rfl) (by kernel_rfl) (fun _ _ _ h => h) (Or.inl ⟨by kernel_rfl, ?hyq1_2⟩) (by assumption) ?restq1_2
    case hyq1_2 => (intro w hSw; (try dsimp only at hSw); go_simp) <;> (with_reducible rfl)
    try simp only [Act.put, List.setIfInBounds_toArray, List.set_cons_zero, List.set_cons_succ]
    refine wpAnyH_take (i := 3) (oi := ⟨some 8, _, _, _, _, _⟩) (v := ?vq1_3) rfl (by kernel_rfl) (by kernel_rfl) (by kernel_rfl) (fun _ _ _ h => h) (Or.inl ⟨by kernel_rfl, ?hyq1_3⟩) (by assumption) ?restq1_3
    case hyq1_3 => (intro w hSw; (try dsimp only at hSw); go_simp) <;> (with_reducible rfl)
    try simp only [Act.put, List.setIfInBounds_toArray, List.set_cons_zero, List.set_cons_succ]
    refine wpAnyH_take (i := 4) (oi := ⟨some 9, _, _, _, _, _⟩) (v := ?vq1_4) rfl (by kernel_rfl) (by kernel_rfl) (by kernel_rfl) (fun _ _ _ h => h) (Or.inl ⟨by kernel_rfl, ?hyq1_4⟩) (by assumption) ?restq1_4
    case hyq1_4 => (intro w hSw; (try dsimp only at hSw); go_simp) <;> (with_reducible rfl)
    try simp only [Act.put, List.setIfInBounds_toArray, List.set_cons_zero, List.set_cons_succ]
    refine wpAnyH_take (i := 5) (oi := ⟨some 10, _, _, _, _, _⟩) (v := ?vq1_5) rfl (by kernel_rfl) (by kernel_rfl) (by kernel_rfl) (fun _ _ _ h => h) (Or.inl ⟨by kernel_rfl, ?hyq1_5⟩) (by assumption) ?restq1_5
    case hyq1_5 => (intro w hSw; (try dsimp only at hSw); go_simp) <;> (with_reducible rfl)
    try simp only [Act.put, List.setIfInBounds_toArray, List.set_cons_zero, List.set_cons_succ]
    refine wpAnyH_take (i := 6) (oi := ⟨some 11, _, _, _, _, _⟩) (v := undef) rfl (by kernel_rfl) (by kernel_rfl) (by kernel_rfl) (fun _ _ _ h => h) (Or.inr ⟨by kernel_rfl, rfl⟩) (by assumption) ?_
    try simp only [Act.put, List.setIfInBounds_toArray, List.set_cons_zero, List.set_cons_succ]
    refine wpAnyH_take (i := 7) (oi := ⟨some 12, _, _, _, _, _⟩) (v := undef) rfl (by kernel_rfl) (by kernel_rfl) (by kernel_rfl) (fun _ _ _ h => h) (Or.inr ⟨by kernel_rfl, rfl⟩) (by assumption) ?_
    try simp only [Act.put, List.setIfInBounds_toArray, List.set_cons_zero, List.set_cons_succ]
    refine wpAnyH_take (i := 8) (oi := ⟨some 13, _, _, _, _, _⟩) (v := undef) rfl (by kernel_rfl) (by kernel_rfl) (by kernel_rfl) (fun _ _ _ h => h) (Or.inr ⟨by kernel_rfl, rfl⟩) (by assumption) ?_
    try simp only [Act.put, List.setIfInBounds_toArray, List.set_cons_zero, List.set_cons_succ]
    refine wpAnyH_take (i := 9) (oi := ⟨some 14, _, _, _, _, _⟩) (v := undef) rfl (by kernel_rfl) (by kernel_rfl) (by kernel_rfl) (fun _ _ _ h => h) (Or.inr ⟨by kernel_rfl, rfl⟩) (by assumption) ?_
    try simp only [Act.put, List.setIfInBounds_toArray, List.set_cons_zero, List.set_cons_succ]
    refine wpAnyH_take (i := 10) (oi := ⟨some 15, _, _, _, _, _⟩) (v := undef) rfl (by kernel_rfl) (by kernel_rfl) (by kernel_rfl) (fun _ _ _ h => h) (Or.inr ⟨by kernel_rfl, rfl⟩) (by assumption) ?_
    try simp only [Act.put, List.setIfInBounds_toArray, List.set_cons_zero, List.set_cons_succ]
    refine wpAnyH_take (i := 11) (oi := ⟨some 16, _, _, _, _, _⟩) (v := ?vq1_11) rfl (by kernel_rfl) (by kernel_rfl) (by kernel_rfl) (fun _ _ _ h => h) (Or.inl ⟨by kernel_rfl, ?hyq1_11⟩) (by assumption) ?restq1_11
    case hyq1_11 => (intro w hSw; (try dsimp only at hSw); go_simp) <;> (with_reducible rfl)
    try simp only [Act.put, List.setIfInBounds_toArray, List.set_cons_zero, List.set_cons_succ]
    refine wpAnyH_take (i := 12) (oi := ⟨some 17, _, _, _, _, _⟩) (v := ?vq1_12) rfl (by kernel_rfl) (by kernel_rfl) (by kernel_rfl) (fun _ _ _ h => h) (Or.inl ⟨by kernel_rfl, ?hyq1_12⟩) (by assumption) ?restq1_12
    case hyq1_12 => (intro w hSw; (try dsimp only at hSw); go_simp) <;> (with_reducible rfl)
    try simp only [Act.put, List.setIfInBounds_toArray, List.set_cons_zero, List.set_cons_succ]
    refine wpAnyH_take (i := 13) (oi := ⟨some 18, _, _, _, _, _⟩) (v := undef) rfl (by kernel_rfl) (by kernel_rfl) (by kernel_rfl) (fun _ _ _ h => h) (Or.inr ⟨by kernel_rfl, rfl⟩) (by assumption) ?_
    try simp only [Act.put, List.setIfInBounds_toArray, List.set_cons_zero, List.set_cons_succ]
    refine wpAnyH_take (i := 14) (oi := ⟨some 19, _, _, _, _, _⟩) (v := undef) rfl (by kernel_rfl) (by kernel_rfl) (by kernel_rfl) (fun _ _ _ h => h) (Or.inr ⟨by kernel_rfl, rfl⟩) (by assumption) ?_
    try simp only [Act.put, List.setIfInBounds_toArray, List.set_cons_zero, List.set_cons_succ]
    refine wpAnyH_take (i := 15) (oi := ⟨some 20, _, _, _, _, _⟩) (v := undef) rfl (by kernel_rfl) (by kernel_rfl) (by kernel_rfl) (fun _ _ _ h => h) (Or.inr ⟨by kernel_rfl, rfl⟩) (by assumption) ?_
    try simp only [Act.put, List.setIfInBounds_toArray, List.set_cons_zero, List.set_cons_succ]
    refine wpAnyH_take (i := 16) (oi := ⟨some 21, _, _, _, _, _⟩) (v := undef) rfl (by kernel_rfl) (by kernel_rfl) (by kernel_rfl) (fun _ _ _ h => h) (Or.inr ⟨by kernel_rfl, rfl⟩) (by assumption) ?_
    try simp only [Act.put, List.setIfInBounds_toArray, List.set_cons_zero, List.set_cons_succ]
    refine wpAnyH_take (i := 17) (oi := ⟨some 22, _, _, _, _, _⟩) (v := undef) rfl (by kernel_rfl) (by kernel_rfl) (by kernel_rfl) (fun _ _ _ h => h) (Or.inr ⟨by kernel_rfl, rfl⟩) (by assumption) ?_
    try simp only [Act.put, List.setIfInBounds_toArray, List.set_cons_zero, List.set_cons_succ]
    refine wpAnyH_take (i := 18) (oi := ⟨some 23, _, _, _, _, _⟩) (v := undef) rfl (by kernel_rfl) (by kernel_rfl) (by kernel_rfl) (fun _ _ _ h => h) (Or.inr ⟨by kernel_rfl, rfl⟩) (by assumption) ?_
    try simp only [Act.put, List.setIfInBounds_toArray, List.set_cons_zero, List.set_cons_succ]
    refine wpAnyH_take (i := 19) (oi := ⟨some 24, _, _, _, _, _⟩) (v := undef) rfl (by kernel_rfl) (by kernel_rfl) (by kernel_rfl) (fun _ _ _ h => h) (Or.inr ⟨by kernel_rfl, rfl⟩) (by assumption) ?_
    try simp only [Act.put, List.setIfInBounds_toArray, List.set_cons_zero, List.set_cons_succ]
    refine wpAnyH_take (i := 20) (oi := ⟨some 25, _, _, _, _, _⟩) (v := undef) rfl (by kernel_rfl) (by kernel_rfl) (by kernel_rfl) (fun _ _ _ h => h) (Or.inr ⟨by kernel_rfl, rfl⟩) (by assumption) ?_
    try simp only [Act.put, List.setIfInBounds_toArray, List.set_cons_zero, List.set_cons_succ]
    refine wpAnyH_take (i := 21) (oi := ⟨some 26, _, _, _, _, _⟩) (v := ?vq1_21) rfl (by kernel_rfl) (by kernel_rfl) (by kernel_rfl) (fun _ _ _ h => h) (Or.inl ⟨by kernel_rfl, ?hyq1_21⟩) (by assumption) ?restq1_21
    case hyq1_21 => (intro w hSw; (try dsimp only at hSw); go_simp) <;> (with_reducible rfl)
    try simp only [Act.put, List.setIfInBounds_toArray, List.set_cons_zero, List.set_cons_succ]
    refine wpAnyH_take (i := 22) (oi := ⟨some 4, _, _, _, _, _⟩) (v := ?vq1_22) rfl (by kernel_rfl) (by kernel_rfl) (by kernel_rfl) (fun _ _ _ h => h) (Or.inl ⟨by kernel_rfl, ?hyq1_22⟩) (by assumption) ?restq1_22
    case hyq1_22 => (intro w hSw; (try dsimp only at hSw); go_simp) <;> (with_reducible rfl)
    try simp only [Act.put, List.setIfInBounds_toArray, List.set_cons_zero, List.set_cons_succ]
    refine wpAnyH_done (by kernel_rfl) ?_ _
    go_wp2_with fail
    go_ret
    exact ⟨ret_bool HT.out.symm, (Frm.b (w := w) (by (repeat (with_reducible first | exact HR.out | apply Frm.drew | apply Frm.alloc | apply Frm.drewN))))⟩
  by_cases g2 : x.b = r2.st
  rotate_left
  · have HT := Lib.hid (show tellB r1 r2 x = false by simp [tellB, g2])
    have g5 : (x.a == r1.st) = true := by simp [g1]
    have g6 : (x.b == r2.st) = false := by simp [g2]
    have HG1 := Lib.hid g1
    clear g1 g2
    go_enter Tryz.func112, Tryz.ntmps112
    go_upto_region 1 with fail
    have HSS : Hid (∀ w', Frm w [(w.heap.size, lnkBox x)] w' → (∀ o, w'.cell? ⟨w.heap.size, o, none⟩ = #[Value.int .i64 x.a, .int .i64 x.b, .int .i64 x.df][o]?) ∧ (∀ o, w'.cell? ⟨D1, o, none⟩ = #[Value.int .i64 r1.st, .int .i64 r1.tk, .int .i64 r1.pr, .int .i64 r1.dlo, .int .i64 r1.dhi, .int .i64 r1.ur, .int .i64 r1.co][o]?) ∧ (∀ o, w'.cell? ⟨D2, o, none⟩ = #[Value.int .i64 r2.st, .int .i64 r2.tk, .int .i64 r2.pr, .int .i64 r2.dlo, .int .i64 r2.dhi, .int .i64 r2.ur, .int .i64 r2.co][o]?)) := Lib.hid fun w' hF => ⟨hF.cells mZ, (boxCells ((hF.b.block _ l1).trans K1.out)).1, (boxCells ((hF.b.block _ l2).trans K2.out)).1⟩
    refine wp_region_held_drew (S := fun w' => (∀ o, w'.cell? ⟨w.heap.size, o, none⟩ = #[Value.int .i64 x.a, .int .i64 x.b, .int .i64 x.df][o]?) ∧ (∀ o, w'.cell? ⟨D1, o, none⟩ = #[Value.int .i64 r1.st, .int .i64 r1.tk, .int .i64 r1.pr, .int .i64 r1.dlo, .int .i64 r1.dhi, .int .i64 r1.ur, .int .i64 r1.co][o]?) ∧ (∀ o, w'.cell? ⟨D2, o, none⟩ = #[Value.int .i64 r2.st, .int .i64 r2.tk, .int .i64 r2.pr, .int .i64 r2.dlo, .int .i64 r2.dhi, .int .i64 r2.ur, .int .i64 r2.co][o]?)) (by kernel_rfl) ?_ (fun hHeld => ?_)
    · (try dsimp only); exact HSS.out _ (by (repeat (with_reducible first | exact HR.out | apply Frm.drew | apply Frm.alloc | apply Frm.drewN)))
    refine wpAnyH_take (i := 0) (oi := ⟨some 5, _, _, _, _, _⟩) (v := ?vq2_0) rfl (by kernel_rfl) (by kernel_rfl) (by kernel_rfl) (fun _ _ _ h => h) (Or.inl ⟨by kernel_rfl, ?hyq2_0⟩) (by assumption) ?restq2_0
    case hyq2_0 => (intro w hSw; (try dsimp only at hSw); go_simp) <;> (with_reducible rfl)
    try simp only [Act.put, List.setIfInBounds_toArray, List.set_cons_zero, List.set_cons_succ]
    refine wpAnyH_take (i := 1) (oi := ⟨some 6, _, _, _, _, _⟩) (v := ?vq2_1) rfl (by kernel_rfl) (by kernel_rfl) (by kernel_rfl) (fun _ _ _ h => h) (Or.inl ⟨by kernel_rfl, ?hyq2_1⟩) (by assumption) ?restq2_1
    case hyq2_1 => (intro w hSw; (try dsimp only at hSw); go_simp) <;> (with_reducible rfl)
    try simp only [Act.put, List.setIfInBounds_toArray, List.set_cons_zero, List.set_cons_succ]
    refine wpAnyH_take (i := 2) (oi := ⟨some 7, _, _, _, _, _⟩) (v := ?vq2_2) rfl (by kernel_rfl) (by kernel_rfl) (by kernel_rfl) (fun _ _ _ h => h) (Or.inl ⟨by kernel_rfl, ?hyq2_2⟩) (by assumption) ?restq2_2
    case hyq2_2 => (intro w hSw; (try dsimp only at hSw); go_simp) <;> (with_reducible rfl)
    try simp only [Act.put, List.setIfInBounds_toArray, List.set_cons_zero, List.set_cons_succ]
    refine wpAnyH_take (i := 3) (oi := ⟨some 8, _, _, _, _, _⟩) (v := ?vq2_3) rfl (by kernel_rfl) (by kernel_rfl) (by kernel_rfl) (fun _ _ _ h => h) (Or.inl ⟨by kernel_rfl, ?hyq2_3⟩) (by assumption) ?restq2_3
    case hyq2_3 => (intro w hSw; (try dsimp only at hSw); go_simp) <;> (with_reducible rfl)
    try simp only [Act.put, List.setIfInBounds_toArray, List.set_cons_zero, List.set_cons_succ]
    refine wpAnyH_take (i := 4) (oi := ⟨some 9, _, _, _, _, _⟩) (v := ?vq2_4) rfl (by kernel_rfl) (by kernel_rfl) (by kernel_rfl) (fun _ _ _ h => h) (Or.inl ⟨by kernel_rfl, ?hyq2_4⟩) (by assumption) ?restq2_4
    case hyq2_4 => (intro w hSw; (try dsimp only at hSw); go_simp) <;> (with_reducible rfl)
    try simp only [Act.put, List.setIfInBounds_toArray, List.set_cons_zero, List.set_cons_succ]
    refine wpAnyH_take (i := 5) (oi := ⟨some 10, _, _, _, _, _⟩) (v := ?vq2_5) rfl (by kernel_rfl) (by kernel_rfl) (by kernel_rfl) (fun _ _ _ h => h) (Or.inl ⟨by kernel_rfl, ?hyq2_5⟩) (by assumption) ?restq2_5
    case hyq2_5 => (intro w hSw; (try dsimp only at hSw); go_simp) <;> (with_reducible rfl)
    try simp only [Act.put, List.setIfInBounds_toArray, List.set_cons_zero, List.set_cons_succ]
    refine wpAnyH_take (i := 6) (oi := ⟨some 11, _, _, _, _, _⟩) (v := ?vq2_6) rfl (by kernel_rfl) (by kernel_rfl) (by kernel_rfl) (fun _ _ _ h => h) (Or.inl ⟨by kernel_rfl, ?hyq2_6⟩) (by assumption) ?restq2_6
    case hyq2_6 => (intro w hSw; (try dsimp only at hSw); go_simp) <;> (with_reducible rfl)
    try simp only [Act.put, List.setIfInBounds_toArray, List.set_cons_zero, List.set_cons_succ]
    refine wpAnyH_take (i := 7) (oi := ⟨some 12, _, _, _, _, _⟩) (v := ?vq2_7) rfl (by kernel_rfl) (by kernel_rfl) (by kernel_rfl) (fun _ _ _ h => h) (Or.inl ⟨by kernel_rfl, ?hyq2_7⟩) (by assumption) ?restq2_7
    case hyq2_7 => (intro w hSw; (try dsimp only at hSw); go_simp) <;> (with_reducible rfl)
    try simp only [Act.put, List.setIfInBounds_toArray, List.set_cons_zero, List.set_cons_succ]
    refine wpAnyH_take (i := 8) (oi := ⟨some 13, _, _, _, _, _⟩) (v := ?vq2_8) rfl (by kernel_rfl) (by kernel_rfl) (by kernel_rfl) (fun _ _ _ h => h) (Or.inl ⟨by kernel_rfl, ?hyq2_8⟩) (by assumption) ?restq2_8
    case hyq2_8 => (intro w hSw; (try dsimp only at hSw); go_simp) <;> (with_reducible rfl)
    try simp only [Act.put, List.setIfInBounds_toArray, List.set_cons_zero, List.set_cons_succ]
    refine wpAnyH_take (i := 9) (oi := ⟨some 14, _, _, _, _, _⟩) (v := ?vq2_9) rfl (by kernel_rfl) (by kernel_rfl) (by kernel_rfl) (fun _ _ _ h => h) (Or.inl ⟨by kernel_rfl, ?hyq2_9⟩) (by assumption) ?restq2_9
    case hyq2_9 => (intro w hSw; (try dsimp only at hSw); go_simp) <;> (with_reducible rfl)
    try simp only [Act.put, List.setIfInBounds_toArray, List.set_cons_zero, List.set_cons_succ]
    refine wpAnyH_take (i := 10) (oi := ⟨some 15, _, _, _, _, _⟩) (v := ?vq2_10) rfl (by kernel_rfl) (by kernel_rfl) (by kernel_rfl) (fun _ _ _ h => h) (Or.inl ⟨by kernel_rfl, ?hyq2_10⟩) (by assumption) ?restq2_10
    case hyq2_10 => (intro w hSw; (try dsimp only at hSw); go_simp) <;> (with_reducible rfl)
    try simp only [Act.put, List.setIfInBounds_toArray, List.set_cons_zero, List.set_cons_succ]
    refine wpAnyH_take (i := 11) (oi := ⟨some 16, _, _, _, _, _⟩) (v := ?vq2_11) rfl (by kernel_rfl) (by kernel_rfl) (by kernel_rfl) (fun _ _ _ h => h) (Or.inl ⟨by kernel_rfl, ?hyq2_11⟩) (by assumption) ?restq2_11
    case hyq2_11 => (intro w hSw; (try dsimp only at hSw); go_simp) <;> (with_reducible rfl)
    try simp only [Act.put, List.setIfInBounds_toArray, List.set_cons_zero, List.set_cons_succ]
    refine wpAnyH_take (i := 12) (oi := ⟨some 17, _, _, _, _, _⟩) (v := ?vq2_12) rfl (by kernel_rfl) (by kernel_rfl) (by kernel_rfl) (fun _ _ _ h => h) (Or.inl ⟨by kernel_rfl, ?hyq2_12⟩) (by assumption) ?restq2_12
    case hyq2_12 => (intro w hSw; (try dsimp only at hSw); go_simp) <;> (with_reducible rfl)
    try simp only [Act.put, List.setIfInBounds_toArray, List.set_cons_zero, List.set_cons_succ]
    refine wpAnyH_take (i := 13) (oi := ⟨some 18, _, _, _, _, _⟩) (v := undef) rfl (by kernel_rfl) (by kernel_rfl) (by kernel_rfl) (fun _ _ _ h => h) (Or.inr ⟨by kernel_rfl, rfl⟩) (by assumption) ?_
    try simp only [Act.put, List.setIfInBounds_toArray, List.set_cons_zero, List.set_cons_succ]
    refine wpAnyH_take (i := 14) (oi := ⟨some 19, _, _, _, _, _⟩) (v := undef) rfl (by kernel_rfl) (by kernel_rfl) (by kernel_rfl) (fun _ _ _ h => h) (Or.inr ⟨by kernel_rfl, rfl⟩) (by assumption) ?_
    try simp only [Act.put, List.setIfInBounds_toArray, List.set_cons_zero, List.set_cons_succ]
    refine wpAnyH_take (i := 15) (oi := ⟨some 20, _, _, _, _, _⟩) (v := undef) rfl (by kernel_rfl) (by kernel_rfl) (by kernel_rfl) (fun _ _ _ h => h) (Or.inr ⟨by kernel_rfl, rfl⟩) (by assumption) ?_
    try simp only [Act.put, List.setIfInBounds_toArray, List.set_cons_zero, List.set_cons_succ]
    refine wpAnyH_take (i := 16) (oi := ⟨some 21, _, _, _, _, _⟩) (v := undef) rfl (by kernel_rfl) (by kernel_rfl) (by kernel_rfl) (fun _ _ _ h => h) (Or.inr ⟨by kernel_rfl, rfl⟩) (by assumption) ?_
    try simp only [Act.put, List.setIfInBounds_toArray, List.set_cons_zero, List.set_cons_succ]
    refine wpAnyH_take (i := 17) (oi := ⟨some 22, _, _, _, _, _⟩) (v := undef) rfl (by kernel_rfl) (by kernel_rfl) (by kernel_rfl) (fun _ _ _ h => h) (Or.inr ⟨by kernel_rfl, rfl⟩) (by assumption) ?_
    try simp only [Act.put, List.setIfInBounds_toArray, List.set_cons_zero, List.set_cons_succ]
    refine wpAnyH_take (i := 18) (oi := ⟨some 23, _, _, _, _, _⟩) (v := undef) rfl (by kernel_rfl) (by kernel_rfl) (by kernel_rfl) (fun _ _ _ h => h) (Or.inr ⟨by kernel_rfl, rfl⟩) (by assumption) ?_
    try simp only [Act.put, List.setIfInBounds_toArray, List.set_cons_zero, List.set_cons_succ]
    refine wpAnyH_take (i := 19) (oi := ⟨some 24, _, _, _, _, _⟩) (v := undef) rfl (by kernel_rfl) (by kernel_rfl) (by kernel_rfl) (fun _ _ _ h => h) (Or.inr ⟨by kernel_rfl, rfl⟩) (by assumption) ?_
    try simp only [Act.put, List.setIfInBounds_toArray, List.set_cons_zero, List.set_cons_succ]
    refine wpAnyH_take (i := 20) (oi := ⟨some 25, _, _, _, _, _⟩) (v := undef) rfl (by kernel_rfl) (by kernel_rfl) (by kernel_rfl) (fun _ _ _ h => h) (Or.inr ⟨by kernel_rfl, rfl⟩) (by assumption) ?_
    try simp only [Act.put, List.setIfInBounds_toArray, List.set_cons_zero, List.set_cons_succ]
    refine wpAnyH_take (i := 21) (oi := ⟨some 26, _, _, _, _, _⟩) (v := ?vq2_21) rfl (by kernel_rfl) (by kernel_rfl) (by kernel_rfl) (fun _ _ _ h => h) (Or.inl ⟨by kernel_rfl, ?hyq2_21⟩) (by assumption) ?restq2_21
    case hyq2_21 => (intro w hSw; (try dsimp only at hSw); go_simp) <;> (with_reducible rfl)
    try simp only [Act.put, List.setIfInBounds_toArray, List.set_cons_zero, List.set_cons_succ]
    refine wpAnyH_take (i := 22) (oi := ⟨some 4, _, _, _, _, _⟩) (v := ?vq2_22) rfl (by kernel_rfl) (by kernel_rfl) (by kernel_rfl) (fun _ _ _ h => h) (Or.inl ⟨by kernel_rfl, ?hyq2_22⟩) (by assumption) ?restq2_22
    case hyq2_22 => (intro w hSw; (try dsimp only at hSw); go_simp) <;> (with_reducible rfl)
    try simp only [Act.put, List.setIfInBounds_toArray, List.set_cons_zero, List.set_cons_succ]
    refine wpAnyH_done (by kernel_rfl) ?_ _
    go_wp2_with fail
    go_ret
    exact ⟨ret_bool HT.out.symm, (Frm.b (w := w) (by (repeat (with_reducible first | exact HR.out | apply Frm.drew | apply Frm.alloc | apply Frm.drewN))))⟩
  obtain ⟨a, b, d⟩ := x
  dsimp only at g1 g2
  subst g1 g2
  go_enter Tryz.func112, Tryz.ntmps112
  go_upto_region 1 with fail
  have HSS : Hid (∀ w', Frm w [(w.heap.size, lnkBox ⟨r1.st, r2.st, d⟩)] w' → (∀ o, w'.cell? ⟨w.heap.size, o, none⟩ = #[Value.int .i64 r1.st, .int .i64 r2.st, .int .i64 d][o]?) ∧ (∀ o, w'.cell? ⟨D1, o, none⟩ = #[Value.int .i64 r1.st, .int .i64 r1.tk, .int .i64 r1.pr, .int .i64 r1.dlo, .int .i64 r1.dhi, .int .i64 r1.ur, .int .i64 r1.co][o]?) ∧ (∀ o, w'.cell? ⟨D2, o, none⟩ = #[Value.int .i64 r2.st, .int .i64 r2.tk, .int .i64 r2.pr, .int .i64 r2.dlo, .int .i64 r2.dhi, .int .i64 r2.ur, .int .i64 r2.co][o]?)) := Lib.hid fun w' hF => ⟨hF.cells mZ, (boxCells ((hF.b.block _ l1).trans K1.out)).1, (boxCells ((hF.b.block _ l2).trans K2.out)).1⟩
  go_region_held3 (fun w' => (∀ o, w'.cell? ⟨w.heap.size, o, none⟩ = #[Value.int .i64 r1.st, .int .i64 r2.st, .int .i64 d][o]?) ∧ (∀ o, w'.cell? ⟨D1, o, none⟩ = #[Value.int .i64 r1.st, .int .i64 r1.tk, .int .i64 r1.pr, .int .i64 r1.dlo, .int .i64 r1.dhi, .int .i64 r1.ur, .int .i64 r1.co][o]?) ∧ (∀ o, w'.cell? ⟨D2, o, none⟩ = #[Value.int .i64 r2.st, .int .i64 r2.tk, .int .i64 r2.pr, .int .i64 r2.dlo, .int .i64 r2.dhi, .int .i64 r2.ur, .int .i64 r2.co][o]?)) ((exact HSS.out _ (by (repeat (with_reducible first | exact HR.out | apply Frm.drew | apply Frm.alloc | apply Frm.drewN))))) ((go_at_call 88; refine (HF.out _).mono ?_; rintro e wq ⟨rfl, rfl⟩))
  all_goals
    go_wp2_with fail
    go_ret
    exact ⟨ret_bool (by simp [tellB]), (Frm.b (w := w) (by (repeat (with_reducible first | exact HR.out | apply Frm.drew | apply Frm.alloc | apply Frm.drewN))))⟩
end Go.Proofs.YtldimlnllmojiaaGreat
