/- The line of a reading, by the program. -/
import Derived.Test.YtffgcphmakfikaaDoorFrm
import Derived.Test.YtffgcphmakfikaaDoorDig
import Derived.Deep.RegionHeld3
import Derived.Deep.DeepCutAuto
import Derived.Deep.AppendLies
set_option linter.unusedVariables false
set_option linter.unusedSimpArgs false
namespace Go.Proofs.YtffgcphmakfikaaDoor
open Go.RowKit

def letF (cl : Int) : List UInt8 := if cl = 1 then [114] else if cl = 2 then [115] else [101]
@[reducible] def str (l : List UInt8) : Value := .string ⟨l.toArray⟩
def wordsF (r : Rdg) : List (List UInt8) := [Lib.itoa r.day, Lib.itoa r.mi, letF r.cl, Lib.itoa r.me, Lib.itoa r.al, Lib.itoa r.ah, Lib.itoa r.dl, Lib.itoa r.dh, Lib.itoa r.wl, Lib.itoa r.wh]
def lineF (r : Rdg) : List UInt8 := Lib.join (wordsF r) [32] ++ [10]

/-- A row of the call's own, of elements of one cell. -/
structure RowK (T : TypeId) (w : World) (g cap n : Nat) (xs : List Value) (cur : Array Value) (W : World) : Prop where
  f : Frm w [(g, .cells cur T)] W
  g0 : w.heap.size ≤ g
  nc : n ≤ cap
  cm : cap ≤ maxLen
  cs : cur.size = cap
  tk : cur.toList.take n = xs
theorem own_of {T : TypeId} {w W : World} {bs : List (Nat × Obj)} {g cap n : Nat} {xs : List Value} {cur : Array Value} (F : Frm w bs W) (hp : (g, Obj.cells cur T) ∈ bs) (hg : w.heap.size ≤ g) (h1 : n ≤ cap) (h2 : cap ≤ maxLen) (h3 : cur.size = cap) (h4 : cur.toList.take n = xs) :
    W.ownsRow w.heap.size T 1 (.slice (some ⟨g, 0, none⟩) n cap) n xs := by
  refine ⟨by rw [← h4, List.length_take, Array.length_toList]; omega, .inr ⟨g, cap, cur, rfl, hg, F.h _ hp, h1, h2, by omega, by simpa using h4⟩⟩
theorem row_of {T : TypeId} {w W : World} {g cap n : Nat} {xs : List Value} (h : W.ownsRow w.heap.size T 1 (.slice (some ⟨g, 0, none⟩) n cap) n xs) (hb : Below w.heap.size w W) : ∃ cur, RowK T w g cap n xs cur W := by
  rcases h.2 with ⟨h, _⟩ | ⟨g', cap', cur, hv, hb0, hg, h1, h2, h3, h4⟩
  · cases h
  · cases hv
    exact ⟨cur, ⟨hb, by simpa using hg⟩, hb0, h1, h2, by omega, by simpa using h4⟩
theorem Frm.grown {w W W1 : World} {bs : List (Nat × Obj)} {M : Nat} (h : Frm w bs W) (hg : W.grownBy W1 (some M)) (hM : w.heap.size ≤ M) (hne : ∀ p ∈ bs, p.1 ≠ M) : Frm w bs W1 := ⟨below_grown h.b hg hM, fun p hp => blk_grown (h.h p hp) hg (hne p hp)⟩
theorem join_len (ws : List (List UInt8)) (h : ∀ x ∈ ws, x.length ≤ 21) : (Lib.join ws [32]).length ≤ ws.length * 22 := by
  induction ws with
  | nil => simp [Lib.join, List.intercalate]
  | cons x r ih =>
    have h1 := h x (by simp)
    have h2 := ih (fun y hy => h y (by simp [hy]))
    cases r with
    | nil => rw [Lib.join_one]; simp; omega
    | cons y r =>
      rw [Lib.join_cons] at h2 ⊢
      simp only [Lib.joinTail, List.map_cons, List.flatten_cons, List.length_append, List.length_cons, List.length_nil] at *
      omega
theorem words_len {r : Rdg} (h0 : -1000 ≤ r.day) (h1 : r.day ≤ 100000) (h2 : -1000 ≤ r.mi) (h3 : r.mi ≤ 100000) (h4 : -1000 ≤ r.me) (h5 : r.me ≤ 100000) (h6 : -1000 ≤ r.al) (h7 : r.al ≤ 100000) (h8 : -1000 ≤ r.ah) (h9 : r.ah ≤ 100000) (g0 : -1000 ≤ r.dl) (g1 : r.dl ≤ 100000) (g2 : -1000 ≤ r.dh) (g3 : r.dh ≤ 100000) (g4 : -1000 ≤ r.wl) (g5 : r.wl ≤ 100000) (g6 : -1000 ≤ r.wh) (g7 : r.wh ≤ 100000) : ∀ x ∈ wordsF r, x.length ≤ 21 := by
  intro x hx
  simp only [wordsF, List.mem_cons, List.not_mem_nil, or_false] at hx
  rcases hx with rfl | rfl | rfl | rfl | rfl | rfl | rfl | rfl | rfl | rfl
  all_goals first
    | exact Lib.itoa_length_le _ (by omega) (by omega)
    | (unfold letF; split <;> (try split) <;> simp)
theorem str_app (a b : List UInt8) : Value.string ((⟨a.toArray⟩ : ByteArray) ++ ⟨b.toArray⟩) = str (a ++ b) := by
  congr 1
theorem join_row {w W : World} {g cap n : Nat} {ws : List (List UInt8)} {cur : Array Value} (h : RowK 9 w g cap n (ws.map str) cur W) (hn : ws.length = n) (hs : n ≤ 1000) (hl : ∀ x ∈ ws, x.length ≤ 21) :
    Calls Tryd.prog 69 #[.slice (some ⟨g, 0, none⟩) n cap, .string ⟨#[32]⟩] W fun e w' => e = .returned (str (Lib.join ws [32])) ∧ Below W.heap.size W w' := by
  have hlen : (ws.map fun l => (⟨l.toArray⟩ : ByteArray)).length = n := by simp [hn]
  have hmap : (ws.map fun l => (⟨l.toArray⟩ : ByteArray)).map (·.data.toList) = ws := by
    rw [List.map_map]
    exact (List.map_congr_left (fun _ _ => rfl)).trans (List.map_id ws)
  have hcells : ∀ (j : Nat) x, (ws.map fun l => (⟨l.toArray⟩ : ByteArray))[j]? = some x → W.cell? ⟨g, 0 + j, none⟩ = some (.string x) := fun j x hx => by
    have hj : j < n := by
      rcases Nat.lt_or_ge j n with h | h
      · exact h
      · rw [List.getElem?_eq_none (by omega)] at hx; cases hx
    rw [h.f.cells (List.mem_cons_self ..) (0 + j), Nat.zero_add]
    have h2 : (cur.toList.take n)[j]? = (ws.map str)[j]? := by rw [h.tk]
    rw [List.getElem?_take_of_lt hj, Array.getElem?_toList] at h2
    rw [h2, List.getElem?_map]
    rw [List.getElem?_map] at hx
    cases hw : ws[j]? with
    | none => rw [hw] at hx; cases hx
    | some y => rw [hw] at hx; cases hx; rfl
  have := Tryd.strings_Join g 0 cap (ws.map fun l => (⟨l.toArray⟩ : ByteArray)) ⟨#[32]⟩ W hcells (h.f.lt (List.mem_cons_self ..)) (by omega) (by have := h.nc; omega) (by
    rw [hmap]
    have := join_len ws hl
    show (Lib.join ws [32]).length ≤ _
    omega)
  rw [hlen, hmap] at this
  exact this
theorem Tryd.infoStr : (Tryd.prog.info? 9).map (fun i => (i.zero, i.size, i.bytes)) = some (some (.string ⟨#[]⟩), 1, 16) := by kernel_rfl

set_option maxHeartbeats 2000000 in
set_option maxRecDepth 100000 in
theorem line_first (day mi cl me al ah dl dh wl wh : Int) (w : World) (hr : Rdg.Good ⟨day, mi, cl, me, al, ah, dl, dh, wl, wh⟩) (ht : Tab w) :
    Calls Tryd.prog 43 #[rdV ⟨day, mi, cl, me, al, ah, dl, dh, wl, wh⟩] w fun e w' => e = .returned (str (lineF ⟨day, mi, cl, me, al, ah, dl, dh, wl, wh⟩)) ∧ Below w.heap.size w w' := by
  obtain ⟨i0, hi0, hz0, hz1, hz2⟩ := info_parts Tryd.infoStr
  have ix0 : ∀ (a b c d e f : Value) (w : World), (Instr.index 88 (.agg #[a, b, c, d, e, f]) (.int .i64 0)).run Tryd.prog w = .ok (.agg #[a, b]) w := fun _ _ _ _ _ _ _ => by kernel_rfl
  have ix1 : ∀ (a b c d e f : Value) (w : World), (Instr.index 88 (.agg #[a, b, c, d, e, f]) (.int .i64 1)).run Tryd.prog w = .ok (.agg #[c, d]) w := fun _ _ _ _ _ _ _ => by kernel_rfl
  have ix2 : ∀ (a b c d e f : Value) (w : World), (Instr.index 88 (.agg #[a, b, c, d, e, f]) (.int .i64 2)).run Tryd.prog w = .ok (.agg #[e, f]) w := fun _ _ _ _ _ _ _ => by kernel_rfl
  have HR : Hid (Frm w [(w.heap.size, rdBox ⟨day, mi, cl, me, al, ah, dl, dh, wl, wh⟩)] (w.alloc (rdBox ⟨day, mi, cl, me, al, ah, dl, dh, wl, wh⟩))) := Lib.hid ((Frm.nil w).add _ rfl)
  have HT := Lib.hid ht
  clear ht
  have x0 := HR.out.cells (List.mem_cons_self ..)
  obtain ⟨d0, d1, m0, m1, c0, c1, b0, b1, a0, a1, a2, a3, a4, a5, a6, a7, a8⟩ := hr
  simp only at d0 d1 m0 m1 c0 c1 b0 b1 a0 a1 a2 a3 a4 a5 a6 a7 a8
  go_enter Tryd.func43, Tryd.ntmps43
  go_upto_region 1 with fail
  go_cut [3] (fun s3 wx => ∃ P : Nat, w.heap.size < P ∧ s3 = .slice (some ⟨P, 0, none⟩) 4 4 ∧ Frm w [(P, .cells #[str (Lib.itoa day), str (Lib.itoa mi), str (letF cl), str (Lib.itoa me)] 9), (w.heap.size, rdBox ⟨day, mi, cl, me, al, ah, dl, dh, wl, wh⟩)] wx)
  case first =>
    have hsl : ∀ W : World, (Instr.slice 9 (.string ⟨#[114, 115, 101]⟩) (some (.int .i64 (cl - 1))) (some (.int .i64 cl)) none).run Tryd.prog W = .ok (str (letF cl)) W := by
      obtain rfl | rfl | rfl : cl = 1 ∨ cl = 2 ∨ cl = 3 := by omega
      all_goals (intro W; kernel_rfl)
    have hwr : IntKind.i64.wrap (cl - 1) = cl - 1 := IntWalk.i64_in _ (by omega)
    go_region_held3 (fun w' => (∀ o, w'.cell? ⟨w.heap.size, o, none⟩ = #[Value.int .i64 day, .int .i64 mi, .int .i64 cl, .int .i64 me, .int .i64 al, .int .i64 ah, .int .i64 dl, .int .i64 dh, .int .i64 wl, .int .i64 wh][o]?)) ((apply Frm.cells (w := w) (bs := [(w.heap.size, rdBox ⟨day, mi, cl, me, al, ah, dl, dh, wl, wh⟩)]) (t := 29) (hp := List.mem_cons_self ..); (repeat (with_reducible first | exact HR.out | apply Frm.drew | apply Frm.alloc)))) ((go_at_call 68; refine (itoa_any _ _ (by omega) (by omega) (HT.out.below (Frm.b (w := w) (bs := [(w.heap.size, rdBox ⟨day, mi, cl, me, al, ah, dl, dh, wl, wh⟩)]) (by (repeat (with_reducible first | exact HR.out | apply Frm.drew | apply Frm.alloc)))))).mono ?_; rintro e w1 ⟨rfl, hb1⟩; have HRq := Lib.hid (Frm.below (w := w) (bs := [(w.heap.size, rdBox ⟨day, mi, cl, me, al, ah, dl, dh, wl, wh⟩)]) (by (repeat (with_reducible first | exact HR.out | apply Frm.drew | apply Frm.alloc))) hb1); clear HR; have HR := HRq; clear HRq hb1))
    all_goals
      go_wp2_with fail
      go_meet
      exact ⟨_, HR.out.lt (List.mem_cons_self ..), rfl, HR.out.add _ rfl⟩
  case rest =>
    obtain ⟨P, hP, rfl, hF⟩ := hcut
    have HF := Lib.hid hF
    have y0 := hF.cells (List.mem_cons_of_mem _ (List.mem_cons_self ..))
    clear hF x0
    go_wp2_with fail
    go_loopw [3, 5, 29] (fun v _ i wr => ∃ k g cap : Nat, k ≤ 3 ∧ i = .int .i64 k ∧ v = .slice (some ⟨g, 0, none⟩) (4 + 2 * k) cap ∧ ∃ cur, RowK 9 w g cap (4 + 2 * k) (((wordsF ⟨day, mi, cl, me, al, ah, dl, dh, wl, wh⟩).take (4 + 2 * k)).map str) cur wr) (fun _ _ i _ => 3 - (intOf i).toNat)
    case atStart => exact ⟨0, P, 4, by omega, rfl, rfl, #[str (Lib.itoa day), str (Lib.itoa mi), str (letF cl), str (Lib.itoa me)], ⟨HF.out.less (by simp), by omega, by omega, by unfold maxLen; omega, rfl, rfl⟩⟩
    case round =>
      obtain ⟨k, g, cap, hk, rfl, rfl, cur, hrow⟩ := hrel
      have HW := Lib.hid hrow
      clear hrow
      obtain rfl | rfl | rfl | rfl : k = 0 ∨ k = 1 ∨ k = 2 ∨ k = 3 := by omega
      · have HR : Hid (Frm w [(wr.heap.size, spBox al ah), (g, .cells cur 9)] (wr.alloc (spBox al ah))) := Lib.hid (HW.out.f.add _ rfl)
        have z0 := HR.out.cells (List.mem_cons_self ..)
        have hgl := HW.out.f.lt (List.mem_cons_self ..)
        have hwl := HW.out.f.size
        go_upto_region 5 with fail
        go_region_held3 (fun w' => (∀ o, w'.cell? ⟨wr.heap.size, o, none⟩ = #[Value.int .i64 al, .int .i64 ah][o]?)) (first | (apply Frm.cells (w := w) (bs := [(wr.heap.size, spBox al ah), (g, .cells cur 9)]) (t := 23) (hp := List.mem_cons_self ..); (repeat (with_reducible first | exact HR.out | apply Frm.drew | apply Frm.alloc)); done) | (exact Frm.cells (w := w) (bs := [(wr.heap.size, spBox al ah)]) (t := 23) (Frm.grown (Frm.less (bs := [(wr.heap.size, spBox al ah), (g, .cells cur 9)]) (by (repeat (with_reducible first | exact HR.out | apply Frm.drew | apply Frm.alloc))) (by simp)) hgrow HW.out.g0 (by simp; omega)) (List.mem_cons_self ..))) (first | (go_at_call 68; refine (itoa_any _ _ (by omega) (by omega) (HT.out.below (Frm.b (w := w) (bs := [(wr.heap.size, spBox al ah), (g, .cells cur 9)]) (by (repeat (with_reducible first | exact HR.out | apply Frm.drew | apply Frm.alloc)))))).mono ?_; rintro e w1 ⟨rfl, hb1⟩; have HRq := Lib.hid (Frm.below (w := w) (bs := [(wr.heap.size, spBox al ah), (g, .cells cur 9)]) (by (repeat (with_reducible first | exact HR.out | apply Frm.drew | apply Frm.alloc))) hb1); clear HR; have HR := HRq; clear HRq hb1) | (refine step_append_lies _ (by rfl) _ _ _ (by rfl) w.heap.size 9 i0 _ 1 16 Tryd.underlying112 hi0 hz0 hz1 hz2 rfl (by omega) _ (4 + 2 * 0) _ (by rfl) (own_of (cur := cur) (bs := [(wr.heap.size, spBox al ah), (g, .cells cur 9)]) (by (repeat (with_reducible first | exact HR.out | apply Frm.drew | apply Frm.alloc))) (by simp) HW.out.g0 HW.out.nc HW.out.cm HW.out.cs HW.out.tk) _ 2 2 [str (Lib.itoa al), str (Lib.itoa ah)] (by rfl) (by rfl) (World.news_of_block (cs := #[str (Lib.itoa al), str (Lib.itoa ah)]) (t := 9) (fr := (0, 0)) (heap_alloc_new _ _)) (by simp [Value.oneCell']) (by omega) (by unfold maxLen; omega) (by omega) (Frm.size (w := w) (bs := [(wr.heap.size, spBox al ah), (g, .cells cur 9)]) (by (repeat (with_reducible first | exact HR.out | apply Frm.drew | apply Frm.alloc)))) _ rfl ?_; intro gg cap1 w2 hown1 hgrow hat hlt; have HB2 := Lib.hid (below_grown (Frm.b (w := w) (bs := [(wr.heap.size, spBox al ah), (g, .cells cur 9)]) (by (repeat (with_reducible first | exact HR.out | apply Frm.drew | apply Frm.alloc)))) hgrow HW.out.g0)))
        all_goals
          have HO := Lib.hid (row_of hown1 HB2.out)
          clear hown1 hgrow hat hlt
          go_wp2
          go_roundw
          case rel => exact ⟨0 + 1, gg, cap1, by omega, by go_num, rfl, HO.out⟩
          case measure => simp [intOf]
      · have HR : Hid (Frm w [(wr.heap.size, spBox dl dh), (g, .cells cur 9)] (wr.alloc (spBox dl dh))) := Lib.hid (HW.out.f.add _ rfl)
        have z0 := HR.out.cells (List.mem_cons_self ..)
        have hgl := HW.out.f.lt (List.mem_cons_self ..)
        have hwl := HW.out.f.size
        go_upto_region 5 with fail
        go_region_held3 (fun w' => (∀ o, w'.cell? ⟨wr.heap.size, o, none⟩ = #[Value.int .i64 dl, .int .i64 dh][o]?)) (first | (apply Frm.cells (w := w) (bs := [(wr.heap.size, spBox dl dh), (g, .cells cur 9)]) (t := 23) (hp := List.mem_cons_self ..); (repeat (with_reducible first | exact HR.out | apply Frm.drew | apply Frm.alloc)); done) | (exact Frm.cells (w := w) (bs := [(wr.heap.size, spBox dl dh)]) (t := 23) (Frm.grown (Frm.less (bs := [(wr.heap.size, spBox dl dh), (g, .cells cur 9)]) (by (repeat (with_reducible first | exact HR.out | apply Frm.drew | apply Frm.alloc))) (by simp)) hgrow HW.out.g0 (by simp; omega)) (List.mem_cons_self ..))) (first | (go_at_call 68; refine (itoa_any _ _ (by omega) (by omega) (HT.out.below (Frm.b (w := w) (bs := [(wr.heap.size, spBox dl dh), (g, .cells cur 9)]) (by (repeat (with_reducible first | exact HR.out | apply Frm.drew | apply Frm.alloc)))))).mono ?_; rintro e w1 ⟨rfl, hb1⟩; have HRq := Lib.hid (Frm.below (w := w) (bs := [(wr.heap.size, spBox dl dh), (g, .cells cur 9)]) (by (repeat (with_reducible first | exact HR.out | apply Frm.drew | apply Frm.alloc))) hb1); clear HR; have HR := HRq; clear HRq hb1) | (refine step_append_lies _ (by rfl) _ _ _ (by rfl) w.heap.size 9 i0 _ 1 16 Tryd.underlying112 hi0 hz0 hz1 hz2 rfl (by omega) _ (4 + 2 * 1) _ (by rfl) (own_of (cur := cur) (bs := [(wr.heap.size, spBox dl dh), (g, .cells cur 9)]) (by (repeat (with_reducible first | exact HR.out | apply Frm.drew | apply Frm.alloc))) (by simp) HW.out.g0 HW.out.nc HW.out.cm HW.out.cs HW.out.tk) _ 2 2 [str (Lib.itoa dl), str (Lib.itoa dh)] (by rfl) (by rfl) (World.news_of_block (cs := #[str (Lib.itoa dl), str (Lib.itoa dh)]) (t := 9) (fr := (0, 0)) (heap_alloc_new _ _)) (by simp [Value.oneCell']) (by omega) (by unfold maxLen; omega) (by omega) (Frm.size (w := w) (bs := [(wr.heap.size, spBox dl dh), (g, .cells cur 9)]) (by (repeat (with_reducible first | exact HR.out | apply Frm.drew | apply Frm.alloc)))) _ rfl ?_; intro gg cap1 w2 hown1 hgrow hat hlt; have HB2 := Lib.hid (below_grown (Frm.b (w := w) (bs := [(wr.heap.size, spBox dl dh), (g, .cells cur 9)]) (by (repeat (with_reducible first | exact HR.out | apply Frm.drew | apply Frm.alloc)))) hgrow HW.out.g0)))
        all_goals
          have HO := Lib.hid (row_of hown1 HB2.out)
          clear hown1 hgrow hat hlt
          go_wp2
          go_roundw
          case rel => exact ⟨1 + 1, gg, cap1, by omega, by go_num, rfl, HO.out⟩
          case measure => simp [intOf]
      · have HR : Hid (Frm w [(wr.heap.size, spBox wl wh), (g, .cells cur 9)] (wr.alloc (spBox wl wh))) := Lib.hid (HW.out.f.add _ rfl)
        have z0 := HR.out.cells (List.mem_cons_self ..)
        have hgl := HW.out.f.lt (List.mem_cons_self ..)
        have hwl := HW.out.f.size
        go_upto_region 5 with fail
        go_region_held3 (fun w' => (∀ o, w'.cell? ⟨wr.heap.size, o, none⟩ = #[Value.int .i64 wl, .int .i64 wh][o]?)) (first | (apply Frm.cells (w := w) (bs := [(wr.heap.size, spBox wl wh), (g, .cells cur 9)]) (t := 23) (hp := List.mem_cons_self ..); (repeat (with_reducible first | exact HR.out | apply Frm.drew | apply Frm.alloc)); done) | (exact Frm.cells (w := w) (bs := [(wr.heap.size, spBox wl wh)]) (t := 23) (Frm.grown (Frm.less (bs := [(wr.heap.size, spBox wl wh), (g, .cells cur 9)]) (by (repeat (with_reducible first | exact HR.out | apply Frm.drew | apply Frm.alloc))) (by simp)) hgrow HW.out.g0 (by simp; omega)) (List.mem_cons_self ..))) (first | (go_at_call 68; refine (itoa_any _ _ (by omega) (by omega) (HT.out.below (Frm.b (w := w) (bs := [(wr.heap.size, spBox wl wh), (g, .cells cur 9)]) (by (repeat (with_reducible first | exact HR.out | apply Frm.drew | apply Frm.alloc)))))).mono ?_; rintro e w1 ⟨rfl, hb1⟩; have HRq := Lib.hid (Frm.below (w := w) (bs := [(wr.heap.size, spBox wl wh), (g, .cells cur 9)]) (by (repeat (with_reducible first | exact HR.out | apply Frm.drew | apply Frm.alloc))) hb1); clear HR; have HR := HRq; clear HRq hb1) | (refine step_append_lies _ (by rfl) _ _ _ (by rfl) w.heap.size 9 i0 _ 1 16 Tryd.underlying112 hi0 hz0 hz1 hz2 rfl (by omega) _ (4 + 2 * 2) _ (by rfl) (own_of (cur := cur) (bs := [(wr.heap.size, spBox wl wh), (g, .cells cur 9)]) (by (repeat (with_reducible first | exact HR.out | apply Frm.drew | apply Frm.alloc))) (by simp) HW.out.g0 HW.out.nc HW.out.cm HW.out.cs HW.out.tk) _ 2 2 [str (Lib.itoa wl), str (Lib.itoa wh)] (by rfl) (by rfl) (World.news_of_block (cs := #[str (Lib.itoa wl), str (Lib.itoa wh)]) (t := 9) (fr := (0, 0)) (heap_alloc_new _ _)) (by simp [Value.oneCell']) (by omega) (by unfold maxLen; omega) (by omega) (Frm.size (w := w) (bs := [(wr.heap.size, spBox wl wh), (g, .cells cur 9)]) (by (repeat (with_reducible first | exact HR.out | apply Frm.drew | apply Frm.alloc)))) _ rfl ?_; intro gg cap1 w2 hown1 hgrow hat hlt; have HB2 := Lib.hid (below_grown (Frm.b (w := w) (bs := [(wr.heap.size, spBox wl wh), (g, .cells cur 9)]) (by (repeat (with_reducible first | exact HR.out | apply Frm.drew | apply Frm.alloc)))) hgrow HW.out.g0)))
        all_goals
          have HO := Lib.hid (row_of hown1 HB2.out)
          clear hown1 hgrow hat hlt
          go_wp2
          go_roundw
          case rel => exact ⟨2 + 1, gg, cap1, by omega, by go_num, rfl, HO.out⟩
          case measure => simp [intOf]

      · have HB := Lib.hid HW.out.f.b
        have hwl := words_len (r := ⟨day, mi, cl, me, al, ah, dl, dh, wl, wh⟩) (by simp only; omega) (by simp only; omega) (by simp only; omega) (by simp only; omega) (by simp only; omega) (by simp only; omega) (by simp only; omega) (by simp only; omega) (by simp only; omega) (by simp only; omega) (by simp only; omega) (by simp only; omega) (by simp only; omega) (by simp only; omega) (by simp only; omega) (by simp only; omega) (by simp only; omega) (by simp only; omega)
        have HJ := Lib.hid (join_row (ws := wordsF ⟨day, mi, cl, me, al, ah, dl, dh, wl, wh⟩) (n := 10) HW.out rfl (by omega) hwl)
        have hjl := join_len (wordsF ⟨day, mi, cl, me, al, ah, dl, dh, wl, wh⟩) hwl
        have hjk : (wordsF ⟨day, mi, cl, me, al, ah, dl, dh, wl, wh⟩).length = 10 := rfl
        rw [hjk] at hjl
        clear hwl hjk
        have HL := Lib.hid (show lineF ⟨day, mi, cl, me, al, ah, dl, dh, wl, wh⟩ = Lib.join (wordsF ⟨day, mi, cl, me, al, ah, dl, dh, wl, wh⟩) [32] ++ [10] from rfl)
        go_wp2_with fail
        refine HJ.out.mono ?_
        rintro e w2 ⟨rfl, hb2⟩
        go_wp2
        go_ret
        exact ⟨congrArg Ending.returned (by rw [HL.out]; exact str_app _ _), below_step HB.out hb2⟩
theorem line_any (r : Rdg) (w : World) (hr : r.Good) (ht : Tab w) :
    Calls Tryd.prog 43 #[rdV r] w fun e w' => e = .returned (str (lineF r)) ∧ Below w.heap.size w w' :=
  line_first r.day r.mi r.cl r.me r.al r.ah r.dl r.dh r.wl r.wh w hr ht
end Go.Proofs.YtffgcphmakfikaaDoor
