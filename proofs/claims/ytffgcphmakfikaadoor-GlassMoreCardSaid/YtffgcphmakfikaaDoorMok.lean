/- A comparison more: the law, statement by statement. -/
import Derived.Test.YtffgcphmakfikaaDoorRo2
import Derived.Test.YtffgcphmakfikaaDoorMo7
set_option linter.unusedVariables false
set_option linter.unusedSimpArgs false
namespace Go.Proofs.YtffgcphmakfikaaDoor
section PartOfChk
open Go Go.ChangeShapes Go.WideShapes Go.ChangeAt Go.RowKit
section
variable {H : Type} {enc : TypeId × Value → H} {w : World} {base : Nat} {held : Bool}
set_option maxRecDepth 100000 in
theorem open_check {v : Value} {d : DataW H} {ps : List MemPlace} {b0 : Nat} (hv : Value.okWide Tryd.prog w .any b0 31 v) (h : DataW.Trod enc Tryd.prog w base (fun _ => true) held 31 v d ps) :
    ∃ c, v = ckV c := by
  obtain ⟨fuel, h⟩ := h
  obtain ⟨cs, rfl, hsz⟩ := okWide_struct Tryd.underlying31 hv
  obtain ⟨c, hc⟩ := check_cells h
  refine ⟨c, ?_⟩
  obtain ⟨l⟩ := cs
  have e : l = [.int .i64 c.day, .int .i64 c.lo, .int .i64 c.hi] := hc
  rw [e]
end

end PartOfChk

section PartOfMo6
open Go.RowKit Go.Maps

set_option maxHeartbeats 40000000 in
set_option maxRecDepth 100000 in
theorem mo_6 {s : Stn} {cs : List Chk} {r : Rdg} {ck : Chk} {le lo hi : Int} {w : World} {A : Option Addr} {c : Nat} {X Y Z U g cap : Nat} {cur : Array Value} {wb : World} (v9 v10 v11 v17 v18 v19 v20 v21 v22 v23 v24 v25 v26 v27 v28 v29 v30 v31 v32 v33 v34 v35 v36 v37 v38 v39 v40 v41 v42 v43 v44 v45 v46 v47 v48 v49 v50 v51 v52 v53 v54 v55 v56 v57 v58 v59 v60 v61 v62 v63 v64 v65 v66 v67 v68 v69 v70 v71 v72 v73 v74 v75 v76 v77 v78 v79 v80 v81 v82 v83 v84 v85 v86 v87 v88 v89 v90 v91 v92 v93 v94 v95 v96 v97 v98 v99 v100 v101 v102 v103 v104 v105 v106 v107 v108 v109 v110 v111 v112 v113 v114 v115 v116 v117 v118 v119 v120 v121 v122 v123 v124 v125 v126 v127 v128 v129 v130 v131 v132 v133 v134 v135 v136 v137 v138 v139 v140 v141 v142 v143 v144 v145 v146 v147 v148 v149 v150 v151 v152 v153 v154 v155 v156 v157 v158 v159 v160 v161 v162 v163 v164 v165 v166 v167 v168 v169 v170 v171 v172 v173 v174 v175 v176 v177 v178 v179 v180 v181 v182 v183 v184 v185 v186 v187 v188 v189 v190 v191 v192 v193 v194 v195 v196 v197 v198 v199 v200 v201 v202 v203 v204 v205 v206 v207 v208 v209 v210 v211 v212 v213 : Value) (HH : Hid (Holds w)) (HT : Hid (Tab w)) (HC0 : Hid (Chks w (.slice A cs.length c) cs)) (HS : Hid (soundB s cs = true)) (HA : Hid (Agreed s cs)) (Hr : Hid (readB r = true)) (n1 : 0 ≤ le) (n2 : le ≤ s.dr) (n3 : 0 ≤ lo) (n4 : lo ≤ hi) (n5 : hi ≤ 100) (gX : w.heap.size + 1 + 1 < X) (gY : w.heap.size + 1 + 1 < Y) (gZ : w.heap.size + 1 + 1 < Z) (gU : w.heap.size + 1 + 1 < U) (nXY : X ≠ Y) (nXZ : X ≠ Z) (nXU : X ≠ U) (nYZ : Y ≠ Z) (nYU : Y ≠ U) (nZU : Z ≠ U) (hc1 : cs.length + 1 ≤ cap) (hc2 : cap ≤ maxLen) (lX : X < g) (lY : Y < g) (lZ : Z < g) (lU : U < g) (lc : w.heap.size + 1 + 1 < g) (HROW : Hid (RowC (cs ++ [ck]) cur))
    (HR : Hid (Frm w [(Z, (stBox { s with hl := ptI s.hl s.hh lo, hh := ptI s.hl s.hh hi, gl := ptI s.gl s.gh lo, gh := ptI s.gl s.gh hi } (.slice A cs.length c))), (Y, (stBox { s with dr := s.dr - le } (.slice A cs.length c))), (g, (.cells cur 31)), (X, (stBox s (.slice (some ⟨g, 0, none⟩) (cs.length + 1) cap))), (U, (rdBox r)), (w.heap.size + 1 + 1, (ckBox ck)), (w.heap.size + 1, (rdBox r)), (w.heap.size, (stBox s (.slice A cs.length c)))] wb)) :
    Code.wp Tryd.prog (restC Tryd.f3 6) (bodyPost Tryd.prog Tryd.f3 fun e w' => e = .returned (.bool true) ∧ Below w.heap.size w w') { tmps := #[stV s (.slice A cs.length c), rdV r, ckV ck, .int .i64 le, .int .i64 lo, .int .i64 hi, .pointer (some ⟨w.heap.size, 0, none⟩), .pointer (some ⟨w.heap.size + 1, 0, none⟩), .pointer (some ⟨w.heap.size + 1 + 1, 0, none⟩), v9, v10, v11, .bool false, .pointer (some ⟨X, 0, none⟩), .pointer (some ⟨Y, 0, none⟩), .pointer (some ⟨Z, 0, none⟩), .pointer (some ⟨U, 0, none⟩), v17, v18, v19, v20, v21, v22, v23, v24, v25, v26, v27, v28, v29, v30, v31, v32, v33, v34, v35, v36, v37, v38, v39, v40, v41, v42, v43, v44, v45, v46, v47, v48, v49, v50, v51, v52, v53, v54, v55, v56, v57, v58, v59, v60, v61, v62, v63, v64, v65, v66, v67, v68, v69, v70, v71, v72, v73, v74, v75, v76, v77, v78, v79, v80, v81, v82, v83, v84, v85, v86, v87, v88, v89, v90, v91, v92, v93, v94, v95, v96, v97, v98, v99, v100, v101, v102, v103, v104, v105, v106, v107, v108, v109, v110, v111, v112, v113, v114, v115, v116, v117, v118, v119, v120, v121, v122, v123, v124, v125, v126, v127, v128, v129, v130, v131, v132, v133, v134, v135, v136, v137, v138, v139, v140, v141, v142, v143, v144, v145, v146, v147, v148, v149, v150, v151, v152, v153, v154, v155, v156, v157, v158, v159, v160, v161, v162, v163, v164, v165, v166, v167, v168, v169, v170, v171, v172, v173, v174, v175, v176, v177, v178, v179, v180, v181, v182, v183, v184, v185, v186, v187, v188, v189, v190, v191, v192, v193, v194, v195, v196, v197, v198, v199, v200, v201, v202, v203, v204, v205, v206, v207, v208, v209, v210, v211, v212, v213], defers := [] } wb := by
  have hg := good_of_soundB HS.out
  have h12 := hg.sane.len
  have dr1 := hg.dr1
  have dr0 := hg.sane.d0
  have Gr := good_of_readB Hr.out
  have HC := Lib.hid (HC0.out.below HR.out.b)
  show Code.wp Tryd.prog (.seq (headC (restC Tryd.f3 6)) (restC Tryd.f3 7)) _ _ _
  refine wp_seq_k (fun K hK => ?_)
  have HKK := Lib.hid hK
  clear hK
  generalize hQQ : (bodyPost Tryd.prog Tryd.f3 fun e w' => e = .returned (.bool true) ∧ Below w.heap.size w w') = Q0
  simp only [restC, headC, tailC, Tryd.f3]
  subst hQQ
  have x0 := HR.out.cells (List.mem_cons_self ..)
  have x1 := HR.out.cells (List.mem_cons_of_mem _ (List.mem_cons_self ..))
  have x2 := HR.out.cells (List.mem_cons_of_mem _ (List.mem_cons_of_mem _ (List.mem_cons_self ..)))
  have x3 := HR.out.cells (List.mem_cons_of_mem _ (List.mem_cons_of_mem _ (List.mem_cons_of_mem _ (List.mem_cons_self ..))))
  have x4 := HR.out.cells (List.mem_cons_of_mem _ (List.mem_cons_of_mem _ (List.mem_cons_of_mem _ (List.mem_cons_of_mem _ (List.mem_cons_self ..)))))
  have x5 := HR.out.cells (List.mem_cons_of_mem _ (List.mem_cons_of_mem _ (List.mem_cons_of_mem _ (List.mem_cons_of_mem _ (List.mem_cons_of_mem _ (List.mem_cons_self ..))))))
  have x6 := HR.out.cells (List.mem_cons_of_mem _ (List.mem_cons_of_mem _ (List.mem_cons_of_mem _ (List.mem_cons_of_mem _ (List.mem_cons_of_mem _ (List.mem_cons_of_mem _ (List.mem_cons_self ..)))))))
  have x7 := HR.out.cells (List.mem_cons_of_mem _ (List.mem_cons_of_mem _ (List.mem_cons_of_mem _ (List.mem_cons_of_mem _ (List.mem_cons_of_mem _ (List.mem_cons_of_mem _ (List.mem_cons_of_mem _ (List.mem_cons_self ..))))))))
  have y0 := hg.h0; have y1 := hg.h1; have y2 := hg.h2; have y3 := hg.g0; have y4 := hg.g1; have y5 := hg.g2
  have y6 := Gr.a0; have y7 := Gr.a1; have y8 := Gr.a2; have y9 := Gr.t0; have z0 := Gr.t1; have z1 := Gr.t2; have z2 := Gr.w0; have z3 := Gr.w1; have z4 := Gr.w2
  have HP3 : Hid (∀ W, Calls Tryd.prog 7 #[.agg #[.int .i64 r.al, .int .i64 r.ah], .int .i64 lo, .int .i64 hi] W fun e w' => e = .returned (spV (ptI r.al r.ah lo) (ptI r.al r.ah hi)) ∧ Below W.heap.size W w') := Lib.hid (fun W => lpart_any (by omega) (by omega) (by omega) (by omega) (by omega) (by omega) W)
  have HP4 : Hid (∀ W, Calls Tryd.prog 7 #[.agg #[.int .i64 r.dl, .int .i64 r.dh], .int .i64 lo, .int .i64 hi] W fun e w' => e = .returned (spV (ptI r.dl r.dh lo) (ptI r.dl r.dh hi)) ∧ Below W.heap.size W w') := Lib.hid (fun W => lpart_any (by omega) (by omega) (by omega) (by omega) (by omega) (by omega) W)
  have HP5 : Hid (∀ W, Calls Tryd.prog 7 #[.agg #[.int .i64 r.wl, .int .i64 r.wh], .int .i64 lo, .int .i64 hi] W fun e w' => e = .returned (spV (ptI r.wl r.wh lo) (ptI r.wl r.wh hi)) ∧ Below W.heap.size W w') := Lib.hid (fun W => lpart_any (by omega) (by omega) (by omega) (by omega) (by omega) (by omega) W)
  clear y0 y1 y2 y3 y4 y5 y6 y7 y8 y9 z0 z1 z2 z3 z4
  have HZ := Lib.hid (HR.out.h _ (List.mem_cons_of_mem _ (List.mem_cons_of_mem _ (List.mem_cons_of_mem _ (List.mem_cons_of_mem _ (List.mem_cons_self ..))))))
  have HRq := Lib.hid (Frm.less (bs' := [(Z, (stBox { s with hl := ptI s.hl s.hh lo, hh := ptI s.hl s.hh hi, gl := ptI s.gl s.gh lo, gh := ptI s.gl s.gh hi } (.slice A cs.length c))), (Y, (stBox { s with dr := s.dr - le } (.slice A cs.length c))), (g, (.cells cur 31)), (X, (stBox s (.slice (some ⟨g, 0, none⟩) (cs.length + 1) cap))), (w.heap.size + 1 + 1, (ckBox ck)), (w.heap.size + 1, (rdBox r)), (w.heap.size, (stBox s (.slice A cs.length c)))]) HR.out (fun p hp => by simp only [List.mem_cons, List.not_mem_nil, or_false] at hp; rcases hp with rfl | rfl | rfl | rfl | rfl | rfl | rfl <;> simp))
  clear HR x0 x1 x2 x3 x4 x5 x6 x7
  have HR := HRq
  clear HRq
  have zc := (boxCells HZ.out).1
  have zf := (boxCells HZ.out).2
  have zn := lt_of_blk HZ.out
  have x0 := HR.out.cells (List.mem_cons_self ..)
  have x1 := HR.out.cells (List.mem_cons_of_mem _ (List.mem_cons_self ..))
  have x2 := HR.out.cells (List.mem_cons_of_mem _ (List.mem_cons_of_mem _ (List.mem_cons_self ..)))
  have x3 := HR.out.cells (List.mem_cons_of_mem _ (List.mem_cons_of_mem _ (List.mem_cons_of_mem _ (List.mem_cons_self ..))))
  have x4 := HR.out.cells (List.mem_cons_of_mem _ (List.mem_cons_of_mem _ (List.mem_cons_of_mem _ (List.mem_cons_of_mem _ (List.mem_cons_self ..)))))
  have x5 := HR.out.cells (List.mem_cons_of_mem _ (List.mem_cons_of_mem _ (List.mem_cons_of_mem _ (List.mem_cons_of_mem _ (List.mem_cons_of_mem _ (List.mem_cons_self ..))))))
  have x6 := HR.out.cells (List.mem_cons_of_mem _ (List.mem_cons_of_mem _ (List.mem_cons_of_mem _ (List.mem_cons_of_mem _ (List.mem_cons_of_mem _ (List.mem_cons_of_mem _ (List.mem_cons_self ..)))))))
  go_region_held3 (fun w' => (∀ o, w'.cell? ⟨w.heap.size + 1, o, none⟩ = #[Value.int .i64 r.day, .int .i64 r.mi, .int .i64 r.cl, .int .i64 r.me, .int .i64 r.al, .int .i64 r.ah, .int .i64 r.dl, .int .i64 r.dh, .int .i64 r.wl, .int .i64 r.wh][o]?)) ((exact (fun hF : Frm w [(Z, (stBox { s with hl := ptI s.hl s.hh lo, hh := ptI s.hl s.hh hi, gl := ptI s.gl s.gh lo, gh := ptI s.gl s.gh hi } (.slice A cs.length c))), (Y, (stBox { s with dr := s.dr - le } (.slice A cs.length c))), (g, (.cells cur 31)), (X, (stBox s (.slice (some ⟨g, 0, none⟩) (cs.length + 1) cap))), (w.heap.size + 1 + 1, (ckBox ck)), (w.heap.size + 1, (rdBox r)), (w.heap.size, (stBox s (.slice A cs.length c)))] _ => hF.cells (List.mem_cons_of_mem _ (List.mem_cons_of_mem _ (List.mem_cons_of_mem _ (List.mem_cons_of_mem _ (List.mem_cons_of_mem _ (List.mem_cons_self ..))))))) (by (repeat (with_reducible first | exact HR.out | apply Frm.drew | apply Frm.alloc | (refine Frm.set ?_ (by simp <;> omega) (by simp <;> omega) _)))))) ((go_at_call 7; (first | (with_reducible refine (HP3.out _).mono ?_) | (with_reducible refine (HP4.out _).mono ?_) | (with_reducible refine (HP5.out _).mono ?_)); rintro e wa ⟨rfl, hba⟩; have HRq := Lib.hid (Frm.below (w := w) (bs := [(Z, (stBox { s with hl := ptI s.hl s.hh lo, hh := ptI s.hl s.hh hi, gl := ptI s.gl s.gh lo, gh := ptI s.gl s.gh hi } (.slice A cs.length c))), (Y, (stBox { s with dr := s.dr - le } (.slice A cs.length c))), (g, (.cells cur 31)), (X, (stBox s (.slice (some ⟨g, 0, none⟩) (cs.length + 1) cap))), (w.heap.size + 1 + 1, (ckBox ck)), (w.heap.size + 1, (rdBox r)), (w.heap.size, (stBox s (.slice A cs.length c)))]) (by (repeat (with_reducible first | exact HR.out | apply Frm.drew | apply Frm.alloc | apply Frm.drewN))) hba); have HZq := Lib.hid (blk_of hba HZ.out); clear HR HZ zc zf zn; have HR := HRq; have HZ := HZq; have zc := (boxCells HZ.out).1; have zf := (boxCells HZ.out).2; have zn := lt_of_blk HZ.out; clear HRq HZq hba))
  all_goals
    go_wp2_with fail
    have HF : Hid (Frm w [(U, (rdBox { r with al := ptI r.al r.ah lo, ah := ptI r.al r.ah hi, dl := ptI r.dl r.dh lo, dh := ptI r.dl r.dh hi, wl := ptI r.wl r.wh lo, wh := ptI r.wl r.wh hi })), (Z, (stBox { s with hl := ptI s.hl s.hh lo, hh := ptI s.hl s.hh hi, gl := ptI s.gl s.gh lo, gh := ptI s.gl s.gh hi } (.slice A cs.length c))), (Y, (stBox { s with dr := s.dr - le } (.slice A cs.length c))), (g, (.cells cur 31)), (X, (stBox s (.slice (some ⟨g, 0, none⟩) (cs.length + 1) cap))), (w.heap.size + 1 + 1, (ckBox ck)), (w.heap.size + 1, (rdBox r)), (w.heap.size, (stBox s (.slice A cs.length c)))] _) := Lib.hid (by
      first
        | exact (Frm.put (Frm.put (Frm.put (Frm.put (Frm.put (Frm.put (Frm.more HR.out HZ.out) (by omega) (fun p hp => by simp only [List.mem_cons, List.not_mem_nil, or_false] at hp; rcases hp with rfl | rfl | rfl | rfl | rfl | rfl | rfl <;> simp <;> omega) 4 _) (by omega) (fun p hp => by simp only [List.mem_cons, List.not_mem_nil, or_false] at hp; rcases hp with rfl | rfl | rfl | rfl | rfl | rfl | rfl <;> simp <;> omega) 5 _) (by omega) (fun p hp => by simp only [List.mem_cons, List.not_mem_nil, or_false] at hp; rcases hp with rfl | rfl | rfl | rfl | rfl | rfl | rfl <;> simp <;> omega) 6 _) (by omega) (fun p hp => by simp only [List.mem_cons, List.not_mem_nil, or_false] at hp; rcases hp with rfl | rfl | rfl | rfl | rfl | rfl | rfl <;> simp <;> omega) 7 _) (by omega) (fun p hp => by simp only [List.mem_cons, List.not_mem_nil, or_false] at hp; rcases hp with rfl | rfl | rfl | rfl | rfl | rfl | rfl <;> simp <;> omega) 8 _) (by omega) (fun p hp => by simp only [List.mem_cons, List.not_mem_nil, or_false] at hp; rcases hp with rfl | rfl | rfl | rfl | rfl | rfl | rfl <;> simp <;> omega) 9 _)
        | exact (Frm.put (Frm.put (Frm.put (Frm.put (Frm.put (Frm.put (Frm.more HR.out HZ.out) (by omega) (fun p hp => by simp only [List.mem_cons, List.not_mem_nil, or_false] at hp; rcases hp with rfl | rfl | rfl | rfl | rfl | rfl | rfl <;> simp <;> omega) 4 _) (by omega) (fun p hp => by simp only [List.mem_cons, List.not_mem_nil, or_false] at hp; rcases hp with rfl | rfl | rfl | rfl | rfl | rfl | rfl <;> simp <;> omega) 5 _) (by omega) (fun p hp => by simp only [List.mem_cons, List.not_mem_nil, or_false] at hp; rcases hp with rfl | rfl | rfl | rfl | rfl | rfl | rfl <;> simp <;> omega) 6 _) (by omega) (fun p hp => by simp only [List.mem_cons, List.not_mem_nil, or_false] at hp; rcases hp with rfl | rfl | rfl | rfl | rfl | rfl | rfl <;> simp <;> omega) 7 _) (by omega) (fun p hp => by simp only [List.mem_cons, List.not_mem_nil, or_false] at hp; rcases hp with rfl | rfl | rfl | rfl | rfl | rfl | rfl <;> simp <;> omega) 8 _) (by omega) (fun p hp => by simp only [List.mem_cons, List.not_mem_nil, or_false] at hp; rcases hp with rfl | rfl | rfl | rfl | rfl | rfl | rfl <;> simp <;> omega) 9 _).drew)
    exact HKK.out _ _ (mo_7 _ _ _ _ _ _ _ _ _ _ _ _ _ _ _ _ _ _ _ _ _ _ _ _ _ _ _ _ _ _ _ _ _ _ _ _ _ _ _ _ _ _ _ _ _ _ _ _ _ _ _ _ _ _ _ _ _ _ _ _ _ _ _ _ _ _ _ _ _ _ _ _ _ _ _ _ _ _ _ _ _ _ _ _ _ _ _ _ _ _ _ _ _ _ _ _ _ _ _ _ _ _ _ _ _ _ _ _ _ _ _ _ _ _ _ _ _ _ _ _ _ _ _ _ _ _ _ _ _ _ _ _ _ _ _ _ _ _ _ _ _ _ _ _ _ _ _ _ _ _ _ _ _ _ _ _ _ _ _ _ _ _ _ _ _ _ _ _ _ _ _ _ _ _ _ _ _ _ _ _ _ _ _ _ _ _ _ _ _ _ _ _ _ _ _ _ _ _ _ _ HH HT HC0 HS HA Hr n1 n2 n3 n4 n5 gX gY gZ gU nXY nXZ nXU nYZ nYU nZU hc1 hc2 lX lY lZ lU lc HROW (Lib.hid HF.out))

end PartOfMo6

section PartOfMo5
open Go.RowKit Go.Maps

set_option maxHeartbeats 40000000 in
set_option maxRecDepth 100000 in
theorem mo_5 {s : Stn} {cs : List Chk} {r : Rdg} {ck : Chk} {le lo hi : Int} {w : World} {A : Option Addr} {c : Nat} {X Y Z U g cap : Nat} {cur : Array Value} {wb : World} (v9 v10 v11 v17 v18 v19 v20 v21 v22 v23 v24 v25 v26 v27 v28 v29 v30 v31 v32 v33 v34 v35 v36 v37 v38 v39 v40 v41 v42 v43 v44 v45 v46 v47 v48 v49 v50 v51 v52 v53 v54 v55 v56 v57 v58 v59 v60 v61 v62 v63 v64 v65 v66 v67 v68 v69 v70 v71 v72 v73 v74 v75 v76 v77 v78 v79 v80 v81 v82 v83 v84 v85 v86 v87 v88 v89 v90 v91 v92 v93 v94 v95 v96 v97 v98 v99 v100 v101 v102 v103 v104 v105 v106 v107 v108 v109 v110 v111 v112 v113 v114 v115 v116 v117 v118 v119 v120 v121 v122 v123 v124 v125 v126 v127 v128 v129 v130 v131 v132 v133 v134 v135 v136 v137 v138 v139 v140 v141 v142 v143 v144 v145 v146 v147 v148 v149 v150 v151 v152 v153 v154 v155 v156 v157 v158 v159 v160 v161 v162 v163 v164 v165 v166 v167 v168 v169 v170 v171 v172 v173 v174 v175 v176 v177 v178 v179 v180 v181 v182 v183 v184 v185 v186 v187 v188 v189 v190 v191 v192 v193 v194 v195 v196 v197 v198 v199 v200 v201 v202 v203 v204 v205 v206 v207 v208 v209 v210 v211 v212 v213 : Value) (HH : Hid (Holds w)) (HT : Hid (Tab w)) (HC0 : Hid (Chks w (.slice A cs.length c) cs)) (HS : Hid (soundB s cs = true)) (HA : Hid (Agreed s cs)) (Hr : Hid (readB r = true)) (n1 : 0 ≤ le) (n2 : le ≤ s.dr) (n3 : 0 ≤ lo) (n4 : lo ≤ hi) (n5 : hi ≤ 100) (gX : w.heap.size + 1 + 1 < X) (gY : w.heap.size + 1 + 1 < Y) (gZ : w.heap.size + 1 + 1 < Z) (gU : w.heap.size + 1 + 1 < U) (nXY : X ≠ Y) (nXZ : X ≠ Z) (nXU : X ≠ U) (nYZ : Y ≠ Z) (nYU : Y ≠ U) (nZU : Z ≠ U) (hc1 : cs.length + 1 ≤ cap) (hc2 : cap ≤ maxLen) (lX : X < g) (lY : Y < g) (lZ : Z < g) (lU : U < g) (lc : w.heap.size + 1 + 1 < g) (HROW : Hid (RowC (cs ++ [ck]) cur))
    (HR : Hid (Frm w [(Y, (stBox { s with dr := s.dr - le } (.slice A cs.length c))), (g, (.cells cur 31)), (X, (stBox s (.slice (some ⟨g, 0, none⟩) (cs.length + 1) cap))), (Z, (stBox s (.slice A cs.length c))), (U, (rdBox r)), (w.heap.size + 1 + 1, (ckBox ck)), (w.heap.size + 1, (rdBox r)), (w.heap.size, (stBox s (.slice A cs.length c)))] wb)) :
    Code.wp Tryd.prog (restC Tryd.f3 5) (bodyPost Tryd.prog Tryd.f3 fun e w' => e = .returned (.bool true) ∧ Below w.heap.size w w') { tmps := #[stV s (.slice A cs.length c), rdV r, ckV ck, .int .i64 le, .int .i64 lo, .int .i64 hi, .pointer (some ⟨w.heap.size, 0, none⟩), .pointer (some ⟨w.heap.size + 1, 0, none⟩), .pointer (some ⟨w.heap.size + 1 + 1, 0, none⟩), v9, v10, v11, .bool false, .pointer (some ⟨X, 0, none⟩), .pointer (some ⟨Y, 0, none⟩), .pointer (some ⟨Z, 0, none⟩), .pointer (some ⟨U, 0, none⟩), v17, v18, v19, v20, v21, v22, v23, v24, v25, v26, v27, v28, v29, v30, v31, v32, v33, v34, v35, v36, v37, v38, v39, v40, v41, v42, v43, v44, v45, v46, v47, v48, v49, v50, v51, v52, v53, v54, v55, v56, v57, v58, v59, v60, v61, v62, v63, v64, v65, v66, v67, v68, v69, v70, v71, v72, v73, v74, v75, v76, v77, v78, v79, v80, v81, v82, v83, v84, v85, v86, v87, v88, v89, v90, v91, v92, v93, v94, v95, v96, v97, v98, v99, v100, v101, v102, v103, v104, v105, v106, v107, v108, v109, v110, v111, v112, v113, v114, v115, v116, v117, v118, v119, v120, v121, v122, v123, v124, v125, v126, v127, v128, v129, v130, v131, v132, v133, v134, v135, v136, v137, v138, v139, v140, v141, v142, v143, v144, v145, v146, v147, v148, v149, v150, v151, v152, v153, v154, v155, v156, v157, v158, v159, v160, v161, v162, v163, v164, v165, v166, v167, v168, v169, v170, v171, v172, v173, v174, v175, v176, v177, v178, v179, v180, v181, v182, v183, v184, v185, v186, v187, v188, v189, v190, v191, v192, v193, v194, v195, v196, v197, v198, v199, v200, v201, v202, v203, v204, v205, v206, v207, v208, v209, v210, v211, v212, v213], defers := [] } wb := by
  have hg := good_of_soundB HS.out
  have h12 := hg.sane.len
  have dr1 := hg.dr1
  have dr0 := hg.sane.d0
  have Gr := good_of_readB Hr.out
  have HC := Lib.hid (HC0.out.below HR.out.b)
  show Code.wp Tryd.prog (.seq (headC (restC Tryd.f3 5)) (restC Tryd.f3 6)) _ _ _
  refine wp_seq_k (fun K hK => ?_)
  have HKK := Lib.hid hK
  clear hK
  generalize hQQ : (bodyPost Tryd.prog Tryd.f3 fun e w' => e = .returned (.bool true) ∧ Below w.heap.size w w') = Q0
  simp only [restC, headC, tailC, Tryd.f3]
  subst hQQ
  have x0 := HR.out.cells (List.mem_cons_self ..)
  have x1 := HR.out.cells (List.mem_cons_of_mem _ (List.mem_cons_self ..))
  have x2 := HR.out.cells (List.mem_cons_of_mem _ (List.mem_cons_of_mem _ (List.mem_cons_self ..)))
  have x3 := HR.out.cells (List.mem_cons_of_mem _ (List.mem_cons_of_mem _ (List.mem_cons_of_mem _ (List.mem_cons_self ..))))
  have x4 := HR.out.cells (List.mem_cons_of_mem _ (List.mem_cons_of_mem _ (List.mem_cons_of_mem _ (List.mem_cons_of_mem _ (List.mem_cons_self ..)))))
  have x5 := HR.out.cells (List.mem_cons_of_mem _ (List.mem_cons_of_mem _ (List.mem_cons_of_mem _ (List.mem_cons_of_mem _ (List.mem_cons_of_mem _ (List.mem_cons_self ..))))))
  have x6 := HR.out.cells (List.mem_cons_of_mem _ (List.mem_cons_of_mem _ (List.mem_cons_of_mem _ (List.mem_cons_of_mem _ (List.mem_cons_of_mem _ (List.mem_cons_of_mem _ (List.mem_cons_self ..)))))))
  have x7 := HR.out.cells (List.mem_cons_of_mem _ (List.mem_cons_of_mem _ (List.mem_cons_of_mem _ (List.mem_cons_of_mem _ (List.mem_cons_of_mem _ (List.mem_cons_of_mem _ (List.mem_cons_of_mem _ (List.mem_cons_self ..))))))))
  have y0 := hg.h0; have y1 := hg.h1; have y2 := hg.h2; have y3 := hg.g0; have y4 := hg.g1; have y5 := hg.g2
  have y6 := Gr.a0; have y7 := Gr.a1; have y8 := Gr.a2; have y9 := Gr.t0; have z0 := Gr.t1; have z1 := Gr.t2; have z2 := Gr.w0; have z3 := Gr.w1; have z4 := Gr.w2
  have HP1 : Hid (∀ W, Calls Tryd.prog 7 #[.agg #[.int .i64 s.hl, .int .i64 s.hh], .int .i64 lo, .int .i64 hi] W fun e w' => e = .returned (spV (ptI s.hl s.hh lo) (ptI s.hl s.hh hi)) ∧ Below W.heap.size W w') := Lib.hid (fun W => lpart_any (by omega) (by omega) (by omega) (by omega) (by omega) (by omega) W)
  have HP2 : Hid (∀ W, Calls Tryd.prog 7 #[.agg #[.int .i64 s.gl, .int .i64 s.gh], .int .i64 lo, .int .i64 hi] W fun e w' => e = .returned (spV (ptI s.gl s.gh lo) (ptI s.gl s.gh hi)) ∧ Below W.heap.size W w') := Lib.hid (fun W => lpart_any (by omega) (by omega) (by omega) (by omega) (by omega) (by omega) W)
  clear y0 y1 y2 y3 y4 y5 y6 y7 y8 y9 z0 z1 z2 z3 z4
  have HZ := Lib.hid (HR.out.h _ (List.mem_cons_of_mem _ (List.mem_cons_of_mem _ (List.mem_cons_of_mem _ (List.mem_cons_self ..)))))
  have HRq := Lib.hid (Frm.less (bs' := [(Y, (stBox { s with dr := s.dr - le } (.slice A cs.length c))), (g, (.cells cur 31)), (X, (stBox s (.slice (some ⟨g, 0, none⟩) (cs.length + 1) cap))), (U, (rdBox r)), (w.heap.size + 1 + 1, (ckBox ck)), (w.heap.size + 1, (rdBox r)), (w.heap.size, (stBox s (.slice A cs.length c)))]) HR.out (fun p hp => by simp only [List.mem_cons, List.not_mem_nil, or_false] at hp; rcases hp with rfl | rfl | rfl | rfl | rfl | rfl | rfl <;> simp))
  clear HR x0 x1 x2 x3 x4 x5 x6 x7
  have HR := HRq
  clear HRq
  have zc := (boxCells HZ.out).1
  have zf := (boxCells HZ.out).2
  have zn := lt_of_blk HZ.out
  have x0 := HR.out.cells (List.mem_cons_self ..)
  have x1 := HR.out.cells (List.mem_cons_of_mem _ (List.mem_cons_self ..))
  have x2 := HR.out.cells (List.mem_cons_of_mem _ (List.mem_cons_of_mem _ (List.mem_cons_self ..)))
  have x3 := HR.out.cells (List.mem_cons_of_mem _ (List.mem_cons_of_mem _ (List.mem_cons_of_mem _ (List.mem_cons_self ..))))
  have x4 := HR.out.cells (List.mem_cons_of_mem _ (List.mem_cons_of_mem _ (List.mem_cons_of_mem _ (List.mem_cons_of_mem _ (List.mem_cons_self ..)))))
  have x5 := HR.out.cells (List.mem_cons_of_mem _ (List.mem_cons_of_mem _ (List.mem_cons_of_mem _ (List.mem_cons_of_mem _ (List.mem_cons_of_mem _ (List.mem_cons_self ..))))))
  have x6 := HR.out.cells (List.mem_cons_of_mem _ (List.mem_cons_of_mem _ (List.mem_cons_of_mem _ (List.mem_cons_of_mem _ (List.mem_cons_of_mem _ (List.mem_cons_of_mem _ (List.mem_cons_self ..)))))))
  go_region_held3 (fun w' => (∀ o, w'.cell? ⟨w.heap.size, o, none⟩ = #[Value.int .i64 s.hl, .int .i64 s.hh, .int .i64 s.gl, .int .i64 s.gh, .int .i64 s.dr, .int .i64 s.rd, .int .i64 s.ea, .int .i64 s.sl, .slice A cs.length c][o]?)) ((exact (fun hF : Frm w [(Y, (stBox { s with dr := s.dr - le } (.slice A cs.length c))), (g, (.cells cur 31)), (X, (stBox s (.slice (some ⟨g, 0, none⟩) (cs.length + 1) cap))), (U, (rdBox r)), (w.heap.size + 1 + 1, (ckBox ck)), (w.heap.size + 1, (rdBox r)), (w.heap.size, (stBox s (.slice A cs.length c)))] _ => hF.cells (List.mem_cons_of_mem _ (List.mem_cons_of_mem _ (List.mem_cons_of_mem _ (List.mem_cons_of_mem _ (List.mem_cons_of_mem _ (List.mem_cons_of_mem _ (List.mem_cons_self ..)))))))) (by (repeat (with_reducible first | exact HR.out | apply Frm.drew | apply Frm.alloc | (refine Frm.set ?_ (by simp <;> omega) (by simp <;> omega) _)))))) ((go_at_call 7; (first | (with_reducible refine (HP1.out _).mono ?_) | (with_reducible refine (HP2.out _).mono ?_)); rintro e wa ⟨rfl, hba⟩; have HRq := Lib.hid (Frm.below (w := w) (bs := [(Y, (stBox { s with dr := s.dr - le } (.slice A cs.length c))), (g, (.cells cur 31)), (X, (stBox s (.slice (some ⟨g, 0, none⟩) (cs.length + 1) cap))), (U, (rdBox r)), (w.heap.size + 1 + 1, (ckBox ck)), (w.heap.size + 1, (rdBox r)), (w.heap.size, (stBox s (.slice A cs.length c)))]) (by (repeat (with_reducible first | exact HR.out | apply Frm.drew | apply Frm.alloc | apply Frm.drewN))) hba); have HZq := Lib.hid (blk_of hba HZ.out); clear HR HZ zc zf zn; have HR := HRq; have HZ := HZq; have zc := (boxCells HZ.out).1; have zf := (boxCells HZ.out).2; have zn := lt_of_blk HZ.out; clear HRq HZq hba))
  all_goals
    go_wp2_with fail
    have HF : Hid (Frm w [(Z, (stBox { s with hl := ptI s.hl s.hh lo, hh := ptI s.hl s.hh hi, gl := ptI s.gl s.gh lo, gh := ptI s.gl s.gh hi } (.slice A cs.length c))), (Y, (stBox { s with dr := s.dr - le } (.slice A cs.length c))), (g, (.cells cur 31)), (X, (stBox s (.slice (some ⟨g, 0, none⟩) (cs.length + 1) cap))), (U, (rdBox r)), (w.heap.size + 1 + 1, (ckBox ck)), (w.heap.size + 1, (rdBox r)), (w.heap.size, (stBox s (.slice A cs.length c)))] _) := Lib.hid (by
      first
        | exact (Frm.put (Frm.put (Frm.put (Frm.put (Frm.more HR.out HZ.out) (by omega) (fun p hp => by simp only [List.mem_cons, List.not_mem_nil, or_false] at hp; rcases hp with rfl | rfl | rfl | rfl | rfl | rfl | rfl <;> simp <;> omega) 0 _) (by omega) (fun p hp => by simp only [List.mem_cons, List.not_mem_nil, or_false] at hp; rcases hp with rfl | rfl | rfl | rfl | rfl | rfl | rfl <;> simp <;> omega) 1 _) (by omega) (fun p hp => by simp only [List.mem_cons, List.not_mem_nil, or_false] at hp; rcases hp with rfl | rfl | rfl | rfl | rfl | rfl | rfl <;> simp <;> omega) 2 _) (by omega) (fun p hp => by simp only [List.mem_cons, List.not_mem_nil, or_false] at hp; rcases hp with rfl | rfl | rfl | rfl | rfl | rfl | rfl <;> simp <;> omega) 3 _)
        | exact (Frm.put (Frm.put (Frm.put (Frm.put (Frm.more HR.out HZ.out) (by omega) (fun p hp => by simp only [List.mem_cons, List.not_mem_nil, or_false] at hp; rcases hp with rfl | rfl | rfl | rfl | rfl | rfl | rfl <;> simp <;> omega) 0 _) (by omega) (fun p hp => by simp only [List.mem_cons, List.not_mem_nil, or_false] at hp; rcases hp with rfl | rfl | rfl | rfl | rfl | rfl | rfl <;> simp <;> omega) 1 _) (by omega) (fun p hp => by simp only [List.mem_cons, List.not_mem_nil, or_false] at hp; rcases hp with rfl | rfl | rfl | rfl | rfl | rfl | rfl <;> simp <;> omega) 2 _) (by omega) (fun p hp => by simp only [List.mem_cons, List.not_mem_nil, or_false] at hp; rcases hp with rfl | rfl | rfl | rfl | rfl | rfl | rfl <;> simp <;> omega) 3 _).drew
        | exact (Frm.put (Frm.put (Frm.put (Frm.put (Frm.more HR.out HZ.out) (by omega) (fun p hp => by simp only [List.mem_cons, List.not_mem_nil, or_false] at hp; rcases hp with rfl | rfl | rfl | rfl | rfl | rfl | rfl <;> simp <;> omega) 2 _) (by omega) (fun p hp => by simp only [List.mem_cons, List.not_mem_nil, or_false] at hp; rcases hp with rfl | rfl | rfl | rfl | rfl | rfl | rfl <;> simp <;> omega) 3 _) (by omega) (fun p hp => by simp only [List.mem_cons, List.not_mem_nil, or_false] at hp; rcases hp with rfl | rfl | rfl | rfl | rfl | rfl | rfl <;> simp <;> omega) 0 _) (by omega) (fun p hp => by simp only [List.mem_cons, List.not_mem_nil, or_false] at hp; rcases hp with rfl | rfl | rfl | rfl | rfl | rfl | rfl <;> simp <;> omega) 1 _)
        | exact (Frm.put (Frm.put (Frm.put (Frm.put (Frm.more HR.out HZ.out) (by omega) (fun p hp => by simp only [List.mem_cons, List.not_mem_nil, or_false] at hp; rcases hp with rfl | rfl | rfl | rfl | rfl | rfl | rfl <;> simp <;> omega) 2 _) (by omega) (fun p hp => by simp only [List.mem_cons, List.not_mem_nil, or_false] at hp; rcases hp with rfl | rfl | rfl | rfl | rfl | rfl | rfl <;> simp <;> omega) 3 _) (by omega) (fun p hp => by simp only [List.mem_cons, List.not_mem_nil, or_false] at hp; rcases hp with rfl | rfl | rfl | rfl | rfl | rfl | rfl <;> simp <;> omega) 0 _) (by omega) (fun p hp => by simp only [List.mem_cons, List.not_mem_nil, or_false] at hp; rcases hp with rfl | rfl | rfl | rfl | rfl | rfl | rfl <;> simp <;> omega) 1 _).drew)
    exact HKK.out _ _ (mo_6 _ _ _ _ _ _ _ _ _ _ _ _ _ _ _ _ _ _ _ _ _ _ _ _ _ _ _ _ _ _ _ _ _ _ _ _ _ _ _ _ _ _ _ _ _ _ _ _ _ _ _ _ _ _ _ _ _ _ _ _ _ _ _ _ _ _ _ _ _ _ _ _ _ _ _ _ _ _ _ _ _ _ _ _ _ _ _ _ _ _ _ _ _ _ _ _ _ _ _ _ _ _ _ _ _ _ _ _ _ _ _ _ _ _ _ _ _ _ _ _ _ _ _ _ _ _ _ _ _ _ _ _ _ _ _ _ _ _ _ _ _ _ _ _ _ _ _ _ _ _ _ _ _ _ _ _ _ _ _ _ _ _ _ _ _ _ _ _ _ _ _ _ _ _ _ _ _ _ _ _ _ _ _ _ _ _ _ _ _ _ _ _ _ _ _ _ _ _ _ _ HH HT HC0 HS HA Hr n1 n2 n3 n4 n5 gX gY gZ gU nXY nXZ nXU nYZ nYU nZU hc1 hc2 lX lY lZ lU lc HROW (Lib.hid HF.out))

end PartOfMo5

section PartOfMo4
open Go.RowKit Go.Maps

set_option maxHeartbeats 40000000 in
set_option maxRecDepth 100000 in
theorem mo_4 {s : Stn} {cs : List Chk} {r : Rdg} {ck : Chk} {le lo hi : Int} {w : World} {A : Option Addr} {c : Nat} {X Y Z U g cap : Nat} {cur : Array Value} {wb : World} (v9 v10 v11 v17 v18 v19 v20 v21 v22 v23 v24 v25 v26 v27 v28 v29 v30 v31 v32 v33 v34 v35 v36 v37 v38 v39 v40 v41 v42 v43 v44 v45 v46 v47 v48 v49 v50 v51 v52 v53 v54 v55 v56 v57 v58 v59 v60 v61 v62 v63 v64 v65 v66 v67 v68 v69 v70 v71 v72 v73 v74 v75 v76 v77 v78 v79 v80 v81 v82 v83 v84 v85 v86 v87 v88 v89 v90 v91 v92 v93 v94 v95 v96 v97 v98 v99 v100 v101 v102 v103 v104 v105 v106 v107 v108 v109 v110 v111 v112 v113 v114 v115 v116 v117 v118 v119 v120 v121 v122 v123 v124 v125 v126 v127 v128 v129 v130 v131 v132 v133 v134 v135 v136 v137 v138 v139 v140 v141 v142 v143 v144 v145 v146 v147 v148 v149 v150 v151 v152 v153 v154 v155 v156 v157 v158 v159 v160 v161 v162 v163 v164 v165 v166 v167 v168 v169 v170 v171 v172 v173 v174 v175 v176 v177 v178 v179 v180 v181 v182 v183 v184 v185 v186 v187 v188 v189 v190 v191 v192 v193 v194 v195 v196 v197 v198 v199 v200 v201 v202 v203 v204 v205 v206 v207 v208 v209 v210 v211 v212 v213 : Value) (HH : Hid (Holds w)) (HT : Hid (Tab w)) (HC0 : Hid (Chks w (.slice A cs.length c) cs)) (HS : Hid (soundB s cs = true)) (HA : Hid (Agreed s cs)) (Hr : Hid (readB r = true)) (n1 : 0 ≤ le) (n2 : le ≤ s.dr) (n3 : 0 ≤ lo) (n4 : lo ≤ hi) (n5 : hi ≤ 100) (gX : w.heap.size + 1 + 1 < X) (gY : w.heap.size + 1 + 1 < Y) (gZ : w.heap.size + 1 + 1 < Z) (gU : w.heap.size + 1 + 1 < U) (nXY : X ≠ Y) (nXZ : X ≠ Z) (nXU : X ≠ U) (nYZ : Y ≠ Z) (nYU : Y ≠ U) (nZU : Z ≠ U) (hc1 : cs.length + 1 ≤ cap) (hc2 : cap ≤ maxLen) (lX : X < g) (lY : Y < g) (lZ : Z < g) (lU : U < g) (lc : w.heap.size + 1 + 1 < g) (HROW : Hid (RowC (cs ++ [ck]) cur))
    (HR : Hid (Frm w [(g, (.cells cur 31)), (X, (stBox s (.slice (some ⟨g, 0, none⟩) (cs.length + 1) cap))), (Y, (stBox s (.slice A cs.length c))), (Z, (stBox s (.slice A cs.length c))), (U, (rdBox r)), (w.heap.size + 1 + 1, (ckBox ck)), (w.heap.size + 1, (rdBox r)), (w.heap.size, (stBox s (.slice A cs.length c)))] wb)) :
    Code.wp Tryd.prog (restC Tryd.f3 4) (bodyPost Tryd.prog Tryd.f3 fun e w' => e = .returned (.bool true) ∧ Below w.heap.size w w') { tmps := #[stV s (.slice A cs.length c), rdV r, ckV ck, .int .i64 le, .int .i64 lo, .int .i64 hi, .pointer (some ⟨w.heap.size, 0, none⟩), .pointer (some ⟨w.heap.size + 1, 0, none⟩), .pointer (some ⟨w.heap.size + 1 + 1, 0, none⟩), v9, v10, v11, .bool false, .pointer (some ⟨X, 0, none⟩), .pointer (some ⟨Y, 0, none⟩), .pointer (some ⟨Z, 0, none⟩), .pointer (some ⟨U, 0, none⟩), v17, v18, v19, v20, v21, v22, v23, v24, v25, v26, v27, v28, v29, v30, v31, v32, v33, v34, v35, v36, v37, v38, v39, v40, v41, v42, v43, v44, v45, v46, v47, v48, v49, v50, v51, v52, v53, v54, v55, v56, v57, v58, v59, v60, v61, v62, v63, v64, v65, v66, v67, v68, v69, v70, v71, v72, v73, v74, v75, v76, v77, v78, v79, v80, v81, v82, v83, v84, v85, v86, v87, v88, v89, v90, v91, v92, v93, v94, v95, v96, v97, v98, v99, v100, v101, v102, v103, v104, v105, v106, v107, v108, v109, v110, v111, v112, v113, v114, v115, v116, v117, v118, v119, v120, v121, v122, v123, v124, v125, v126, v127, v128, v129, v130, v131, v132, v133, v134, v135, v136, v137, v138, v139, v140, v141, v142, v143, v144, v145, v146, v147, v148, v149, v150, v151, v152, v153, v154, v155, v156, v157, v158, v159, v160, v161, v162, v163, v164, v165, v166, v167, v168, v169, v170, v171, v172, v173, v174, v175, v176, v177, v178, v179, v180, v181, v182, v183, v184, v185, v186, v187, v188, v189, v190, v191, v192, v193, v194, v195, v196, v197, v198, v199, v200, v201, v202, v203, v204, v205, v206, v207, v208, v209, v210, v211, v212, v213], defers := [] } wb := by
  have hg := good_of_soundB HS.out
  have h12 := hg.sane.len
  have dr1 := hg.dr1
  have dr0 := hg.sane.d0
  have Gr := good_of_readB Hr.out
  have HC := Lib.hid (HC0.out.below HR.out.b)
  show Code.wp Tryd.prog (.seq (headC (restC Tryd.f3 4)) (restC Tryd.f3 5)) _ _ _
  refine wp_seq_k (fun K hK => ?_)
  have HKK := Lib.hid hK
  clear hK
  generalize hQQ : (bodyPost Tryd.prog Tryd.f3 fun e w' => e = .returned (.bool true) ∧ Below w.heap.size w w') = Q0
  simp only [restC, headC, tailC, Tryd.f3]
  subst hQQ
  have x0 := HR.out.cells (List.mem_cons_self ..)
  have x1 := HR.out.cells (List.mem_cons_of_mem _ (List.mem_cons_self ..))
  have x2 := HR.out.cells (List.mem_cons_of_mem _ (List.mem_cons_of_mem _ (List.mem_cons_self ..)))
  have x3 := HR.out.cells (List.mem_cons_of_mem _ (List.mem_cons_of_mem _ (List.mem_cons_of_mem _ (List.mem_cons_self ..))))
  have x4 := HR.out.cells (List.mem_cons_of_mem _ (List.mem_cons_of_mem _ (List.mem_cons_of_mem _ (List.mem_cons_of_mem _ (List.mem_cons_self ..)))))
  have x5 := HR.out.cells (List.mem_cons_of_mem _ (List.mem_cons_of_mem _ (List.mem_cons_of_mem _ (List.mem_cons_of_mem _ (List.mem_cons_of_mem _ (List.mem_cons_self ..))))))
  have x6 := HR.out.cells (List.mem_cons_of_mem _ (List.mem_cons_of_mem _ (List.mem_cons_of_mem _ (List.mem_cons_of_mem _ (List.mem_cons_of_mem _ (List.mem_cons_of_mem _ (List.mem_cons_self ..)))))))
  have x7 := HR.out.cells (List.mem_cons_of_mem _ (List.mem_cons_of_mem _ (List.mem_cons_of_mem _ (List.mem_cons_of_mem _ (List.mem_cons_of_mem _ (List.mem_cons_of_mem _ (List.mem_cons_of_mem _ (List.mem_cons_self ..))))))))
  have xf2 := HR.out.free (List.mem_cons_of_mem _ (List.mem_cons_of_mem _ (List.mem_cons_self ..)))
  have xl2 := HR.out.lt (List.mem_cons_of_mem _ (List.mem_cons_of_mem _ (List.mem_cons_self ..)))
  go_wp2_with fail
  have HF := Lib.hid (show Frm w [(Y, (stBox { s with dr := s.dr - le } (.slice A cs.length c))), (g, (.cells cur 31)), (X, (stBox s (.slice (some ⟨g, 0, none⟩) (cs.length + 1) cap))), (Z, (stBox s (.slice A cs.length c))), (U, (rdBox r)), (w.heap.size + 1 + 1, (ckBox ck)), (w.heap.size + 1, (rdBox r)), (w.heap.size, (stBox s (.slice A cs.length c)))] _ from Frm.put (Frm.less (bs' := [(Y, (stBox s (.slice A cs.length c))), (g, (.cells cur 31)), (X, (stBox s (.slice (some ⟨g, 0, none⟩) (cs.length + 1) cap))), (Z, (stBox s (.slice A cs.length c))), (U, (rdBox r)), (w.heap.size + 1 + 1, (ckBox ck)), (w.heap.size + 1, (rdBox r)), (w.heap.size, (stBox s (.slice A cs.length c)))]) HR.out (fun p hp => by simp only [List.mem_cons, List.not_mem_nil, or_false] at hp ⊢; rcases hp with rfl | rfl | rfl | rfl | rfl | rfl | rfl | rfl <;> simp)) (by omega) (fun p hp => by simp only [List.mem_cons, List.not_mem_nil, or_false] at hp; rcases hp with rfl | rfl | rfl | rfl | rfl | rfl | rfl <;> simp <;> omega) 4 _)
  exact HKK.out _ _ (mo_5 _ _ _ _ _ _ _ _ _ _ _ _ _ _ _ _ _ _ _ _ _ _ _ _ _ _ _ _ _ _ _ _ _ _ _ _ _ _ _ _ _ _ _ _ _ _ _ _ _ _ _ _ _ _ _ _ _ _ _ _ _ _ _ _ _ _ _ _ _ _ _ _ _ _ _ _ _ _ _ _ _ _ _ _ _ _ _ _ _ _ _ _ _ _ _ _ _ _ _ _ _ _ _ _ _ _ _ _ _ _ _ _ _ _ _ _ _ _ _ _ _ _ _ _ _ _ _ _ _ _ _ _ _ _ _ _ _ _ _ _ _ _ _ _ _ _ _ _ _ _ _ _ _ _ _ _ _ _ _ _ _ _ _ _ _ _ _ _ _ _ _ _ _ _ _ _ _ _ _ _ _ _ _ _ _ _ _ _ _ _ _ _ _ _ _ _ _ _ _ _ HH HT HC0 HS HA Hr n1 n2 n3 n4 n5 gX gY gZ gU nXY nXZ nXU nYZ nYU nZU hc1 hc2 lX lY lZ lU lc HROW (Lib.hid HF.out))

end PartOfMo4

section PartOfMo3
open Go.RowKit Go.Maps

set_option maxHeartbeats 40000000 in
set_option maxRecDepth 100000 in
theorem mo_3 {s : Stn} {cs : List Chk} {r : Rdg} {ck : Chk} {le lo hi : Int} {w : World} {A : Option Addr} {c : Nat} {X Y Z U : Nat}  {wb : World} (v9 v10 v11 v17 v18 v19 v20 v21 v22 v23 v24 v25 v26 v27 v28 v29 v30 v31 v32 v33 v34 v35 v36 v37 v38 v39 v40 v41 v42 v43 v44 v45 v46 v47 v48 v49 v50 v51 v52 v53 v54 v55 v56 v57 v58 v59 v60 v61 v62 v63 v64 v65 v66 v67 v68 v69 v70 v71 v72 v73 v74 v75 v76 v77 v78 v79 v80 v81 v82 v83 v84 v85 v86 v87 v88 v89 v90 v91 v92 v93 v94 v95 v96 v97 v98 v99 v100 v101 v102 v103 v104 v105 v106 v107 v108 v109 v110 v111 v112 v113 v114 v115 v116 v117 v118 v119 v120 v121 v122 v123 v124 v125 v126 v127 v128 v129 v130 v131 v132 v133 v134 v135 v136 v137 v138 v139 v140 v141 v142 v143 v144 v145 v146 v147 v148 v149 v150 v151 v152 v153 v154 v155 v156 v157 v158 v159 v160 v161 v162 v163 v164 v165 v166 v167 v168 v169 v170 v171 v172 v173 v174 v175 v176 v177 v178 v179 v180 v181 v182 v183 v184 v185 v186 v187 v188 v189 v190 v191 v192 v193 v194 v195 v196 v197 v198 v199 v200 v201 v202 v203 v204 v205 v206 v207 v208 v209 v210 v211 v212 v213 : Value) (HH : Hid (Holds w)) (HT : Hid (Tab w)) (HC0 : Hid (Chks w (.slice A cs.length c) cs)) (HS : Hid (soundB s cs = true)) (HA : Hid (Agreed s cs)) (Hr : Hid (readB r = true)) (n1 : 0 ≤ le) (n2 : le ≤ s.dr) (n3 : 0 ≤ lo) (n4 : lo ≤ hi) (n5 : hi ≤ 100) (gX : w.heap.size + 1 + 1 < X) (gY : w.heap.size + 1 + 1 < Y) (gZ : w.heap.size + 1 + 1 < Z) (gU : w.heap.size + 1 + 1 < U) (nXY : X ≠ Y) (nXZ : X ≠ Z) (nXU : X ≠ U) (nYZ : Y ≠ Z) (nYU : Y ≠ U) (nZU : Z ≠ U) 
    (HR : Hid (Frm w [(X, (stBox s (.slice A cs.length c))), (Y, (stBox s (.slice A cs.length c))), (Z, (stBox s (.slice A cs.length c))), (U, (rdBox r)), (w.heap.size + 1 + 1, (ckBox ck)), (w.heap.size + 1, (rdBox r)), (w.heap.size, (stBox s (.slice A cs.length c)))] wb)) :
    Code.wp Tryd.prog (restC Tryd.f3 3) (bodyPost Tryd.prog Tryd.f3 fun e w' => e = .returned (.bool true) ∧ Below w.heap.size w w') { tmps := #[stV s (.slice A cs.length c), rdV r, ckV ck, .int .i64 le, .int .i64 lo, .int .i64 hi, .pointer (some ⟨w.heap.size, 0, none⟩), .pointer (some ⟨w.heap.size + 1, 0, none⟩), .pointer (some ⟨w.heap.size + 1 + 1, 0, none⟩), v9, v10, v11, .bool false, .pointer (some ⟨X, 0, none⟩), .pointer (some ⟨Y, 0, none⟩), .pointer (some ⟨Z, 0, none⟩), .pointer (some ⟨U, 0, none⟩), v17, v18, v19, v20, v21, v22, v23, v24, v25, v26, v27, v28, v29, v30, v31, v32, v33, v34, v35, v36, v37, v38, v39, v40, v41, v42, v43, v44, v45, v46, v47, v48, v49, v50, v51, v52, v53, v54, v55, v56, v57, v58, v59, v60, v61, v62, v63, v64, v65, v66, v67, v68, v69, v70, v71, v72, v73, v74, v75, v76, v77, v78, v79, v80, v81, v82, v83, v84, v85, v86, v87, v88, v89, v90, v91, v92, v93, v94, v95, v96, v97, v98, v99, v100, v101, v102, v103, v104, v105, v106, v107, v108, v109, v110, v111, v112, v113, v114, v115, v116, v117, v118, v119, v120, v121, v122, v123, v124, v125, v126, v127, v128, v129, v130, v131, v132, v133, v134, v135, v136, v137, v138, v139, v140, v141, v142, v143, v144, v145, v146, v147, v148, v149, v150, v151, v152, v153, v154, v155, v156, v157, v158, v159, v160, v161, v162, v163, v164, v165, v166, v167, v168, v169, v170, v171, v172, v173, v174, v175, v176, v177, v178, v179, v180, v181, v182, v183, v184, v185, v186, v187, v188, v189, v190, v191, v192, v193, v194, v195, v196, v197, v198, v199, v200, v201, v202, v203, v204, v205, v206, v207, v208, v209, v210, v211, v212, v213], defers := [] } wb := by
  have hg := good_of_soundB HS.out
  have h12 := hg.sane.len
  have dr1 := hg.dr1
  have dr0 := hg.sane.d0
  have Gr := good_of_readB Hr.out
  have HC := Lib.hid (HC0.out.below HR.out.b)
  show Code.wp Tryd.prog (.seq (headC (restC Tryd.f3 3)) (restC Tryd.f3 4)) _ _ _
  refine wp_seq_k (fun K hK => ?_)
  have HKK := Lib.hid hK
  clear hK
  generalize hQQ : (bodyPost Tryd.prog Tryd.f3 fun e w' => e = .returned (.bool true) ∧ Below w.heap.size w w') = Q0
  simp only [restC, headC, tailC, Tryd.f3]
  subst hQQ
  have x0 := HR.out.cells (List.mem_cons_self ..)
  have x1 := HR.out.cells (List.mem_cons_of_mem _ (List.mem_cons_self ..))
  have x2 := HR.out.cells (List.mem_cons_of_mem _ (List.mem_cons_of_mem _ (List.mem_cons_self ..)))
  have x3 := HR.out.cells (List.mem_cons_of_mem _ (List.mem_cons_of_mem _ (List.mem_cons_of_mem _ (List.mem_cons_self ..))))
  have x4 := HR.out.cells (List.mem_cons_of_mem _ (List.mem_cons_of_mem _ (List.mem_cons_of_mem _ (List.mem_cons_of_mem _ (List.mem_cons_self ..)))))
  have x5 := HR.out.cells (List.mem_cons_of_mem _ (List.mem_cons_of_mem _ (List.mem_cons_of_mem _ (List.mem_cons_of_mem _ (List.mem_cons_of_mem _ (List.mem_cons_self ..))))))
  have x6 := HR.out.cells (List.mem_cons_of_mem _ (List.mem_cons_of_mem _ (List.mem_cons_of_mem _ (List.mem_cons_of_mem _ (List.mem_cons_of_mem _ (List.mem_cons_of_mem _ (List.mem_cons_self ..)))))))
  clear x0 x1 x2 x3 x4 x5 x6
  have HK := Lib.hid (Frm.less (bs' := [(w.heap.size + 1 + 1, (ckBox ck)), (w.heap.size + 1, (rdBox r)), (w.heap.size, (stBox s (.slice A cs.length c)))]) HR.out (fun p hp => by simp only [List.mem_cons, List.not_mem_nil, or_false] at hp; rcases hp with rfl | rfl | rfl <;> simp))
  have x0 := HK.out.cells (List.mem_cons_self ..)
  have x2 := HK.out.cells (List.mem_cons_of_mem _ (List.mem_cons_of_mem _ (List.mem_cons_self ..)))
  go_region_held3 (fun w' => (∀ o, w'.cell? ⟨w.heap.size, o, none⟩ = #[Value.int .i64 s.hl, .int .i64 s.hh, .int .i64 s.gl, .int .i64 s.gh, .int .i64 s.dr, .int .i64 s.rd, .int .i64 s.ea, .int .i64 s.sl, .slice A cs.length c][o]?) ∧ (∀ o, w'.cell? ⟨w.heap.size + 1 + 1, o, none⟩ = #[Value.int .i64 ck.day, .int .i64 ck.lo, .int .i64 ck.hi][o]?)) ((exact (fun hF : Frm w [(w.heap.size + 1 + 1, (ckBox ck)), (w.heap.size + 1, (rdBox r)), (w.heap.size, (stBox s (.slice A cs.length c)))] _ => ⟨hF.cells (List.mem_cons_of_mem _ (List.mem_cons_of_mem _ (List.mem_cons_self ..))), hF.cells (List.mem_cons_self ..)⟩) (by (repeat (with_reducible first | exact HK.out | apply Frm.drew | apply Frm.alloc | (refine Frm.set ?_ (by simp <;> omega) (by simp <;> omega) _)))))) (first | ((first | refine step_of (by rfl) (wp_all _ _ (by rfl) (A := A) (cs := cs) (c := c) (by rfl) (by rfl) (by first | exact HC0.out.below (Frm.b (w := w) (bs := [(w.heap.size + 1 + 1, (ckBox ck)), (w.heap.size + 1, (rdBox r)), (w.heap.size, (stBox s (.slice A cs.length c)))]) (by (repeat (with_reducible first | exact HK.out | apply Frm.drew | apply Frm.alloc | (refine Frm.set ?_ (by simp <;> omega) (by simp <;> omega) _)))))) h12 ?_) | refine wp_all _ _ (by rfl) (A := A) (cs := cs) (c := c) (by rfl) (by rfl) (by first | exact HC0.out.below (Frm.b (w := w) (bs := [(w.heap.size + 1 + 1, (ckBox ck)), (w.heap.size + 1, (rdBox r)), (w.heap.size, (stBox s (.slice A cs.length c)))]) (by (repeat (with_reducible first | exact HK.out | apply Frm.drew | apply Frm.alloc | (refine Frm.set ?_ (by simp <;> omega) (by simp <;> omega) _)))))) h12 ?_); intro v1 wa hO1 hg1; (first | (obtain ⟨hFa, base, hO, hba, hbw, hbl⟩ := after_all (w := w) (bs := (_, ckBox ck) :: [(X, (stBox s (.slice A cs.length c))), (Y, (stBox s (.slice A cs.length c))), (Z, (stBox s (.slice A cs.length c))), (U, (rdBox r)), (w.heap.size + 1 + 1, (ckBox ck)), (w.heap.size + 1, (rdBox r)), (w.heap.size, (stBox s (.slice A cs.length c)))]) (by first | exact HR.out.add _ rfl | exact (HR.out.add _ rfl).drew | exact HR.out.drew.add _ rfl) hO1 hg1; have HN := Lib.hid (hFa.h _ (List.mem_cons_self ..)); clear HR HK; have HR := Lib.hid (Frm.less (bs' := [(X, (stBox s (.slice A cs.length c))), (Y, (stBox s (.slice A cs.length c))), (Z, (stBox s (.slice A cs.length c))), (U, (rdBox r)), (w.heap.size + 1 + 1, (ckBox ck)), (w.heap.size + 1, (rdBox r)), (w.heap.size, (stBox s (.slice A cs.length c)))]) hFa (fun p hp => by simp only [List.mem_cons, List.not_mem_nil, or_false] at hp ⊢; simp [hp])); have HK := Lib.hid (Frm.less (bs' := [(w.heap.size + 1 + 1, (ckBox ck)), (w.heap.size + 1, (rdBox r)), (w.heap.size, (stBox s (.slice A cs.length c)))]) HR.out (fun p hp => by simp only [List.mem_cons, List.not_mem_nil, or_false] at hp; rcases hp with rfl | rfl | rfl <;> simp)); have HBL := Lib.hid (fun p hp => hbl p (List.mem_cons_of_mem _ hp))) | (obtain ⟨hFa, base, hO, hba, hbw, hbl⟩ := after_all (w := w) (bs := [(X, (stBox s (.slice A cs.length c))), (Y, (stBox s (.slice A cs.length c))), (Z, (stBox s (.slice A cs.length c))), (U, (rdBox r)), (w.heap.size + 1 + 1, (ckBox ck)), (w.heap.size + 1, (rdBox r)), (w.heap.size, (stBox s (.slice A cs.length c)))]) (by (repeat (with_reducible first | exact HR.out | apply Frm.drew | apply Frm.alloc | apply Frm.drewN))) hO1 hg1; clear HR HK; have HR := Lib.hid (Frm.less (bs' := [(X, (stBox s (.slice A cs.length c))), (Y, (stBox s (.slice A cs.length c))), (Z, (stBox s (.slice A cs.length c))), (U, (rdBox r)), (w.heap.size + 1 + 1, (ckBox ck)), (w.heap.size + 1, (rdBox r)), (w.heap.size, (stBox s (.slice A cs.length c)))]) hFa (fun p hp => by simp only [List.mem_cons, List.not_mem_nil, or_false] at hp ⊢; simp [hp])); have HK := Lib.hid (Frm.less (bs' := [(w.heap.size + 1 + 1, (ckBox ck)), (w.heap.size + 1, (rdBox r)), (w.heap.size, (stBox s (.slice A cs.length c)))]) HR.out (fun p hp => by simp only [List.mem_cons, List.not_mem_nil, or_false] at hp; rcases hp with rfl | rfl | rfl <;> simp)); have HBL := Lib.hid hbl)); have HO := Lib.hid hO; clear hO1 hg1 hFa hbl hO) | ((first | refine step_of (by rfl) (wp_one _ _ (by rfl) (base := base) (N := wa.heap.size) (v := v1) (cs := cs) (c := ck) (by rfl) (World.ownsRow.alloc HO.out _) (by rfl) (heap_new _ _ rfl) h12 (Nat.le_trans hba (by simp)) ?_) | refine wp_one _ _ (by rfl) (base := base) (N := wa.heap.size) (v := v1) (cs := cs) (c := ck) (by rfl) (World.ownsRow.alloc HO.out _) (by rfl) (heap_new _ _ rfl) h12 (Nat.le_trans hba (by simp)) ?_ | refine step_of (by rfl) (wp_one _ _ (by rfl) (base := base) (v := v1) (cs := cs) (c := ck) (by rfl) HO.out (by rfl) HN.out h12 hba ?_) | refine wp_one _ _ (by rfl) (base := base) (v := v1) (cs := cs) (c := ck) (by rfl) HO.out (by rfl) HN.out h12 hba ?_); intro g cap wd hO3 hg3 hat hlt; obtain ⟨cur, hF3, hrow, hc1, hc2, hgt⟩ := after_one (w := w) (bs := [(X, (stBox s (.slice A cs.length c))), (Y, (stBox s (.slice A cs.length c))), (Z, (stBox s (.slice A cs.length c))), (U, (rdBox r)), (w.heap.size + 1 + 1, (ckBox ck)), (w.heap.size + 1, (rdBox r)), (w.heap.size, (stBox s (.slice A cs.length c)))]) (by (repeat (with_reducible first | exact HR.out | apply Frm.drew | apply Frm.alloc | apply Frm.drewN))) hbw HBL.out (fun k hk => (HO.out.lt k hk).1) (by first | exact hba | exact Nat.le_trans hba (by simp)) hO3 hg3 hat; clear HR HK; have HG := Lib.hid hF3; have HR := Lib.hid (Frm.less (bs' := [(X, (stBox s (.slice A cs.length c))), (Y, (stBox s (.slice A cs.length c))), (Z, (stBox s (.slice A cs.length c))), (U, (rdBox r)), (w.heap.size + 1 + 1, (ckBox ck)), (w.heap.size + 1, (rdBox r)), (w.heap.size, (stBox s (.slice A cs.length c)))]) hF3 (fun p hp => List.mem_cons_of_mem _ hp)); have HK := Lib.hid (Frm.less (bs' := [(w.heap.size + 1 + 1, (ckBox ck)), (w.heap.size + 1, (rdBox r)), (w.heap.size, (stBox s (.slice A cs.length c)))]) HR.out (fun p hp => by simp only [List.mem_cons, List.not_mem_nil, or_false] at hp; rcases hp with rfl | rfl | rfl <;> simp)); have HROW := Lib.hid hrow; have HGT := Lib.hid hgt; have x0 := HR.out.cells (List.mem_cons_self ..); have xf := HR.out.free (List.mem_cons_self ..); have xl := HR.out.lt (List.mem_cons_self ..); clear hO3 hg3 hat hlt hF3 hrow hgt HO HBL))
  all_goals
    go_wp2_with fail
    have hgt := HGT.out
    simp only [List.mem_cons, List.not_mem_nil, or_false, forall_eq_or_imp, forall_eq] at hgt
    obtain ⟨q0, q1, q2, q3, q4, q5, q6⟩ := hgt
    have hz := Frm.put (Frm.less (bs' := [(X, (stBox s (.slice A cs.length c))), (g, (.cells cur 31)), (Y, (stBox s (.slice A cs.length c))), (Z, (stBox s (.slice A cs.length c))), (U, (rdBox r)), (w.heap.size + 1 + 1, (ckBox ck)), (w.heap.size + 1, (rdBox r)), (w.heap.size, (stBox s (.slice A cs.length c)))]) HG.out (fun p hp => by simp only [List.mem_cons, List.not_mem_nil, or_false] at hp ⊢; rcases hp with rfl | rfl | rfl | rfl | rfl | rfl | rfl | rfl <;> simp)) (by omega) (fun p hp => by simp only [List.mem_cons, List.not_mem_nil, or_false] at hp; rcases hp with rfl | rfl | rfl | rfl | rfl | rfl | rfl <;> simp <;> omega) 8 (.slice (some ⟨g, 0, none⟩) (cs.length + 1) cap)
    first
      | (have HF := Lib.hid (Frm.less (bs' := [(g, (.cells cur 31)), (X, (stBox s (.slice (some ⟨g, 0, none⟩) (cs.length + 1) cap))), (Y, (stBox s (.slice A cs.length c))), (Z, (stBox s (.slice A cs.length c))), (U, (rdBox r)), (w.heap.size + 1 + 1, (ckBox ck)), (w.heap.size + 1, (rdBox r)), (w.heap.size, (stBox s (.slice A cs.length c)))]) (show Frm w ((X, stBox s (.slice (some ⟨g, 0, none⟩) (cs.length + 1) cap)) :: [(g, (.cells cur 31)), (Y, (stBox s (.slice A cs.length c))), (Z, (stBox s (.slice A cs.length c))), (U, (rdBox r)), (w.heap.size + 1 + 1, (ckBox ck)), (w.heap.size + 1, (rdBox r)), (w.heap.size, (stBox s (.slice A cs.length c)))]) _ from hz) (fun p hp => by simp only [List.mem_cons, List.not_mem_nil, or_false] at hp ⊢; rcases hp with rfl | rfl | rfl | rfl | rfl | rfl | rfl | rfl <;> simp)); exact HKK.out _ _ (mo_4 _ _ _ _ _ _ _ _ _ _ _ _ _ _ _ _ _ _ _ _ _ _ _ _ _ _ _ _ _ _ _ _ _ _ _ _ _ _ _ _ _ _ _ _ _ _ _ _ _ _ _ _ _ _ _ _ _ _ _ _ _ _ _ _ _ _ _ _ _ _ _ _ _ _ _ _ _ _ _ _ _ _ _ _ _ _ _ _ _ _ _ _ _ _ _ _ _ _ _ _ _ _ _ _ _ _ _ _ _ _ _ _ _ _ _ _ _ _ _ _ _ _ _ _ _ _ _ _ _ _ _ _ _ _ _ _ _ _ _ _ _ _ _ _ _ _ _ _ _ _ _ _ _ _ _ _ _ _ _ _ _ _ _ _ _ _ _ _ _ _ _ _ _ _ _ _ _ _ _ _ _ _ _ _ _ _ _ _ _ _ _ _ _ _ _ _ _ _ _ _ HH HT HC0 HS HA Hr n1 n2 n3 n4 n5 gX gY gZ gU nXY nXZ nXU nYZ nYU nZU hc1 hc2 q0 q1 q2 q3 q4 HROW HF))
      | (have HF := Lib.hid (Frm.less (bs' := [(g, (.cells cur 31)), (X, (stBox s (.slice (some ⟨g, 0, none⟩) (cs.length + 1) cap))), (Y, (stBox s (.slice A cs.length c))), (Z, (stBox s (.slice A cs.length c))), (U, (rdBox r)), (w.heap.size + 1 + 1, (ckBox ck)), (w.heap.size + 1, (rdBox r)), (w.heap.size, (stBox s (.slice A cs.length c)))]) (show Frm w ((X, stBox s (.slice (some ⟨g, 0, none⟩) (cs.length + 1) cap)) :: [(g, (.cells cur 31)), (Y, (stBox s (.slice A cs.length c))), (Z, (stBox s (.slice A cs.length c))), (U, (rdBox r)), (w.heap.size + 1 + 1, (ckBox ck)), (w.heap.size + 1, (rdBox r)), (w.heap.size, (stBox s (.slice A cs.length c)))]) _ from hz.drew) (fun p hp => by simp only [List.mem_cons, List.not_mem_nil, or_false] at hp ⊢; rcases hp with rfl | rfl | rfl | rfl | rfl | rfl | rfl | rfl <;> simp)); exact HKK.out _ _ (mo_4 _ _ _ _ _ _ _ _ _ _ _ _ _ _ _ _ _ _ _ _ _ _ _ _ _ _ _ _ _ _ _ _ _ _ _ _ _ _ _ _ _ _ _ _ _ _ _ _ _ _ _ _ _ _ _ _ _ _ _ _ _ _ _ _ _ _ _ _ _ _ _ _ _ _ _ _ _ _ _ _ _ _ _ _ _ _ _ _ _ _ _ _ _ _ _ _ _ _ _ _ _ _ _ _ _ _ _ _ _ _ _ _ _ _ _ _ _ _ _ _ _ _ _ _ _ _ _ _ _ _ _ _ _ _ _ _ _ _ _ _ _ _ _ _ _ _ _ _ _ _ _ _ _ _ _ _ _ _ _ _ _ _ _ _ _ _ _ _ _ _ _ _ _ _ _ _ _ _ _ _ _ _ _ _ _ _ _ _ _ _ _ _ _ _ _ _ _ _ _ _ HH HT HC0 HS HA Hr n1 n2 n3 n4 n5 gX gY gZ gU nXY nXZ nXU nYZ nYU nZU hc1 hc2 q0 q1 q2 q3 q4 HROW HF))

end PartOfMo3

section PartOfMo2
open Go.RowKit Go.Maps

set_option maxHeartbeats 40000000 in
set_option maxRecDepth 100000 in
theorem mo_2 {s : Stn} {cs : List Chk} {r : Rdg} {ck : Chk} {le lo hi : Int} {w : World} {A : Option Addr} {c : Nat} {wb : World} (v9 v10 v11 v13 v14 v15 v16 v17 v18 v19 v20 v21 v22 v23 v24 v25 v26 v27 v28 v29 v30 v31 v32 v33 v34 v35 v36 v37 v38 v39 v40 v41 v42 v43 v44 v45 v46 v47 v48 v49 v50 v51 v52 v53 v54 v55 v56 v57 v58 v59 v60 v61 v62 v63 v64 v65 v66 v67 v68 v69 v70 v71 v72 v73 v74 v75 v76 v77 v78 v79 v80 v81 v82 v83 v84 v85 v86 v87 v88 v89 v90 v91 v92 v93 v94 v95 v96 v97 v98 v99 v100 v101 v102 v103 v104 v105 v106 v107 v108 v109 v110 v111 v112 v113 v114 v115 v116 v117 v118 v119 v120 v121 v122 v123 v124 v125 v126 v127 v128 v129 v130 v131 v132 v133 v134 v135 v136 v137 v138 v139 v140 v141 v142 v143 v144 v145 v146 v147 v148 v149 v150 v151 v152 v153 v154 v155 v156 v157 v158 v159 v160 v161 v162 v163 v164 v165 v166 v167 v168 v169 v170 v171 v172 v173 v174 v175 v176 v177 v178 v179 v180 v181 v182 v183 v184 v185 v186 v187 v188 v189 v190 v191 v192 v193 v194 v195 v196 v197 v198 v199 v200 v201 v202 v203 v204 v205 v206 v207 v208 v209 v210 v211 v212 v213 : Value) (HH : Hid (Holds w)) (HT : Hid (Tab w)) (HC0 : Hid (Chks w (.slice A cs.length c) cs)) (HS : Hid (soundB s cs = true)) (HA : Hid (Agreed s cs)) (Hr : Hid (readB r = true)) (n1 : 0 ≤ le) (n2 : le ≤ s.dr) (n3 : 0 ≤ lo) (n4 : lo ≤ hi) (n5 : hi ≤ 100)
    (HR : Hid (Frm w [(w.heap.size + 1 + 1, (ckBox ck)), (w.heap.size + 1, (rdBox r)), (w.heap.size, (stBox s (.slice A cs.length c)))] wb)) :
    Code.wp Tryd.prog (restC Tryd.f3 2) (bodyPost Tryd.prog Tryd.f3 fun e w' => e = .returned (.bool true) ∧ Below w.heap.size w w') { tmps := #[stV s (.slice A cs.length c), rdV r, ckV ck, .int .i64 le, .int .i64 lo, .int .i64 hi, .pointer (some ⟨w.heap.size, 0, none⟩), .pointer (some ⟨w.heap.size + 1, 0, none⟩), .pointer (some ⟨w.heap.size + 1 + 1, 0, none⟩), v9, v10, v11, .bool false, v13, v14, v15, v16, v17, v18, v19, v20, v21, v22, v23, v24, v25, v26, v27, v28, v29, v30, v31, v32, v33, v34, v35, v36, v37, v38, v39, v40, v41, v42, v43, v44, v45, v46, v47, v48, v49, v50, v51, v52, v53, v54, v55, v56, v57, v58, v59, v60, v61, v62, v63, v64, v65, v66, v67, v68, v69, v70, v71, v72, v73, v74, v75, v76, v77, v78, v79, v80, v81, v82, v83, v84, v85, v86, v87, v88, v89, v90, v91, v92, v93, v94, v95, v96, v97, v98, v99, v100, v101, v102, v103, v104, v105, v106, v107, v108, v109, v110, v111, v112, v113, v114, v115, v116, v117, v118, v119, v120, v121, v122, v123, v124, v125, v126, v127, v128, v129, v130, v131, v132, v133, v134, v135, v136, v137, v138, v139, v140, v141, v142, v143, v144, v145, v146, v147, v148, v149, v150, v151, v152, v153, v154, v155, v156, v157, v158, v159, v160, v161, v162, v163, v164, v165, v166, v167, v168, v169, v170, v171, v172, v173, v174, v175, v176, v177, v178, v179, v180, v181, v182, v183, v184, v185, v186, v187, v188, v189, v190, v191, v192, v193, v194, v195, v196, v197, v198, v199, v200, v201, v202, v203, v204, v205, v206, v207, v208, v209, v210, v211, v212, v213], defers := [] } wb := by
  have HC := Lib.hid (HC0.out.below HR.out.b)
  show Code.wp Tryd.prog (.seq (headC (restC Tryd.f3 2)) (restC Tryd.f3 3)) _ _ _
  refine wp_seq_k (fun K hK => ?_)
  have HKK := Lib.hid hK
  clear hK
  generalize hQQ : (bodyPost Tryd.prog Tryd.f3 fun e w' => e = .returned (.bool true) ∧ Below w.heap.size w w') = Q0
  simp only [restC, headC, tailC, Tryd.f3]
  subst hQQ
  have x0 := HR.out.cells (List.mem_cons_self ..)
  have x1 := HR.out.cells (List.mem_cons_of_mem _ (List.mem_cons_self ..))
  have x2 := HR.out.cells (List.mem_cons_of_mem _ (List.mem_cons_of_mem _ (List.mem_cons_self ..)))
  have hsz : w.heap.size + 1 + 1 < wb.heap.size := HR.out.lt (List.mem_cons_self ..)
  go_region_held3 (fun w' => (∀ o, w'.cell? ⟨w.heap.size, o, none⟩ = #[Value.int .i64 s.hl, .int .i64 s.hh, .int .i64 s.gl, .int .i64 s.gh, .int .i64 s.dr, .int .i64 s.rd, .int .i64 s.ea, .int .i64 s.sl, .slice A cs.length c][o]?) ∧ (∀ o, w'.cell? ⟨w.heap.size + 1, o, none⟩ = #[Value.int .i64 r.day, .int .i64 r.mi, .int .i64 r.cl, .int .i64 r.me, .int .i64 r.al, .int .i64 r.ah, .int .i64 r.dl, .int .i64 r.dh, .int .i64 r.wl, .int .i64 r.wh][o]?)) ((exact (fun hF : Frm w [(w.heap.size + 1 + 1, (ckBox ck)), (w.heap.size + 1, (rdBox r)), (w.heap.size, (stBox s (.slice A cs.length c)))] _ => ⟨hF.cells (List.mem_cons_of_mem _ (List.mem_cons_of_mem _ (List.mem_cons_self ..))), hF.cells (List.mem_cons_of_mem _ (List.mem_cons_self ..))⟩) (by (repeat (with_reducible first | exact HR.out | apply Frm.drew | apply Frm.alloc | apply Frm.drewN))))) (fail)
  all_goals
    go_wp2_with fail
    exact HKK.out _ _ (mo_3 _ _ _ _ _ _ _ _ _ _ _ _ _ _ _ _ _ _ _ _ _ _ _ _ _ _ _ _ _ _ _ _ _ _ _ _ _ _ _ _ _ _ _ _ _ _ _ _ _ _ _ _ _ _ _ _ _ _ _ _ _ _ _ _ _ _ _ _ _ _ _ _ _ _ _ _ _ _ _ _ _ _ _ _ _ _ _ _ _ _ _ _ _ _ _ _ _ _ _ _ _ _ _ _ _ _ _ _ _ _ _ _ _ _ _ _ _ _ _ _ _ _ _ _ _ _ _ _ _ _ _ _ _ _ _ _ _ _ _ _ _ _ _ _ _ _ _ _ _ _ _ _ _ _ _ _ _ _ _ _ _ _ _ _ _ _ _ _ _ _ _ _ _ _ _ _ _ _ _ _ _ _ _ _ _ _ _ _ _ _ _ _ _ _ _ _ _ _ _ _ HH HT HC0 HS HA Hr n1 n2 n3 n4 n5 (by first | omega | (simp <;> omega) | simp) (by first | omega | (simp <;> omega) | simp) (by first | omega | (simp <;> omega) | simp) (by first | omega | (simp <;> omega) | simp) (by first | omega | (simp <;> omega) | simp) (by first | omega | (simp <;> omega) | simp) (by first | omega | (simp <;> omega) | simp) (by first | omega | (simp <;> omega) | simp) (by first | omega | (simp <;> omega) | simp) (by first | omega | (simp <;> omega) | simp) (Lib.hid (Frm.less (Frm.drew (Frm.add (Frm.add (Frm.add (Frm.add HR.out _ rfl) _ rfl) _ rfl) _ rfl)) (fun p hp => by
      simp only [List.mem_cons, List.not_mem_nil, or_false] at hp
      rcases hp with rfl | rfl | rfl | rfl | rfl | rfl | rfl <;> simp))))

end PartOfMo2

section PartOfMo1
open Go.RowKit Go.Maps

set_option maxHeartbeats 40000000 in
set_option maxRecDepth 100000 in
theorem mo_1 {s : Stn} {cs : List Chk} {r : Rdg} {ck : Chk} {le lo hi : Int} {w : World} {A : Option Addr} {c : Nat} {wb : World} (v9 v10 v11 v13 v14 v15 v16 v17 v18 v19 v20 v21 v22 v23 v24 v25 v26 v27 v28 v29 v30 v31 v32 v33 v34 v35 v36 v37 v38 v39 v40 v41 v42 v43 v44 v45 v46 v47 v48 v49 v50 v51 v52 v53 v54 v55 v56 v57 v58 v59 v60 v61 v62 v63 v64 v65 v66 v67 v68 v69 v70 v71 v72 v73 v74 v75 v76 v77 v78 v79 v80 v81 v82 v83 v84 v85 v86 v87 v88 v89 v90 v91 v92 v93 v94 v95 v96 v97 v98 v99 v100 v101 v102 v103 v104 v105 v106 v107 v108 v109 v110 v111 v112 v113 v114 v115 v116 v117 v118 v119 v120 v121 v122 v123 v124 v125 v126 v127 v128 v129 v130 v131 v132 v133 v134 v135 v136 v137 v138 v139 v140 v141 v142 v143 v144 v145 v146 v147 v148 v149 v150 v151 v152 v153 v154 v155 v156 v157 v158 v159 v160 v161 v162 v163 v164 v165 v166 v167 v168 v169 v170 v171 v172 v173 v174 v175 v176 v177 v178 v179 v180 v181 v182 v183 v184 v185 v186 v187 v188 v189 v190 v191 v192 v193 v194 v195 v196 v197 v198 v199 v200 v201 v202 v203 v204 v205 v206 v207 v208 v209 v210 v211 v212 v213 : Value) (HH : Hid (Holds w)) (HT : Hid (Tab w)) (HC0 : Hid (Chks w (.slice A cs.length c) cs)) (hcap : (c : Int) ≤ 9223372036854775807) (hlc : cs.length ≤ c)
    (HR : Hid (Frm w [(w.heap.size + 1 + 1, (ckBox ck)), (w.heap.size + 1, (rdBox r)), (w.heap.size, (stBox s (.slice A cs.length c)))] wb)) :
    Code.wp Tryd.prog (restC Tryd.f3 1) (bodyPost Tryd.prog Tryd.f3 fun e w' => e = .returned (.bool true) ∧ Below w.heap.size w w') { tmps := #[stV s (.slice A cs.length c), rdV r, ckV ck, .int .i64 le, .int .i64 lo, .int .i64 hi, .pointer (some ⟨w.heap.size, 0, none⟩), .pointer (some ⟨w.heap.size + 1, 0, none⟩), .pointer (some ⟨w.heap.size + 1 + 1, 0, none⟩), v9, v10, v11, .bool false, v13, v14, v15, v16, v17, v18, v19, v20, v21, v22, v23, v24, v25, v26, v27, v28, v29, v30, v31, v32, v33, v34, v35, v36, v37, v38, v39, v40, v41, v42, v43, v44, v45, v46, v47, v48, v49, v50, v51, v52, v53, v54, v55, v56, v57, v58, v59, v60, v61, v62, v63, v64, v65, v66, v67, v68, v69, v70, v71, v72, v73, v74, v75, v76, v77, v78, v79, v80, v81, v82, v83, v84, v85, v86, v87, v88, v89, v90, v91, v92, v93, v94, v95, v96, v97, v98, v99, v100, v101, v102, v103, v104, v105, v106, v107, v108, v109, v110, v111, v112, v113, v114, v115, v116, v117, v118, v119, v120, v121, v122, v123, v124, v125, v126, v127, v128, v129, v130, v131, v132, v133, v134, v135, v136, v137, v138, v139, v140, v141, v142, v143, v144, v145, v146, v147, v148, v149, v150, v151, v152, v153, v154, v155, v156, v157, v158, v159, v160, v161, v162, v163, v164, v165, v166, v167, v168, v169, v170, v171, v172, v173, v174, v175, v176, v177, v178, v179, v180, v181, v182, v183, v184, v185, v186, v187, v188, v189, v190, v191, v192, v193, v194, v195, v196, v197, v198, v199, v200, v201, v202, v203, v204, v205, v206, v207, v208, v209, v210, v211, v212, v213], defers := [] } wb := by
  have HC := Lib.hid (HC0.out.below HR.out.b)
  show Code.wp Tryd.prog (.seq (headC (restC Tryd.f3 1)) (restC Tryd.f3 2)) _ _ _
  refine wp_seq_k (fun K hK => ?_)
  have HKK := Lib.hid hK
  clear hK
  generalize hQQ : (bodyPost Tryd.prog Tryd.f3 fun e w' => e = .returned (.bool true) ∧ Below w.heap.size w w') = Q0
  simp only [restC, headC, tailC, Tryd.f3]
  subst hQQ
  have x0 := HR.out.cells (List.mem_cons_self ..)
  have x1 := HR.out.cells (List.mem_cons_of_mem _ (List.mem_cons_self ..))
  have x2 := HR.out.cells (List.mem_cons_of_mem _ (List.mem_cons_of_mem _ (List.mem_cons_self ..)))
  cases hag : (soundB s cs && agB s cs)
  · have HAG := Lib.hid hag
    clear hag
    go_wp2_with fail
    refine (agreed_is (by first | exact HC.out | exact HC.out.drew | exact HC.out.below (below_al (Below.refl _ _) _) | exact HC.out.drew.below (below_al (Below.refl _ _) _) | exact (HC.out.below (below_al (Below.refl _ _) _)).drew) HAG.out).mono ?_
    rintro e w1 ⟨rfl, hb⟩
    have HRq := Lib.hid (Frm.below (w := w) (bs := [(w.heap.size + 1 + 1, (ckBox ck)), (w.heap.size + 1, (rdBox r)), (w.heap.size, (stBox s (.slice A cs.length c)))]) (by (repeat (with_reducible first | exact HR.out | apply Frm.drew | apply Frm.alloc | apply Frm.drewN))) hb)
    have HCq := Lib.hid (Chks.below (cs := cs) (by first | exact HC.out | exact HC.out.drew | exact HC.out.below (below_al (Below.refl _ _) _) | exact HC.out.drew.below (below_al (Below.refl _ _) _) | exact (HC.out.below (below_al (Below.refl _ _) _)).drew) hb)
    clear HR HC hb x0 x1 x2
    have HR := HRq
    have HC := HCq
    clear HRq HCq
    have x0 := HR.out.cells (List.mem_cons_self ..)
    have x1 := HR.out.cells (List.mem_cons_of_mem _ (List.mem_cons_self ..))
    have x2 := HR.out.cells (List.mem_cons_of_mem _ (List.mem_cons_of_mem _ (List.mem_cons_self ..)))
    go_wp2_with fail
    refine (known_ex _ (HH.out.below (Frm.b (w := w) (bs := [(w.heap.size + 1 + 1, (ckBox ck)), (w.heap.size + 1, (rdBox r)), (w.heap.size, (stBox s (.slice A cs.length c)))]) (by (repeat (with_reducible first | exact HR.out | apply Frm.drew | apply Frm.alloc | apply Frm.drewN))))) (HT.out.below (Frm.b (w := w) (bs := [(w.heap.size + 1 + 1, (ckBox ck)), (w.heap.size + 1, (rdBox r)), (w.heap.size, (stBox s (.slice A cs.length c)))]) (by (repeat (with_reducible first | exact HR.out | apply Frm.drew | apply Frm.alloc | apply Frm.drewN)))))).mono ?_
    rintro e wz ⟨rfl, hbz⟩
    have HZ := Lib.hid (Frm.below (w := w) (bs := [(w.heap.size + 1 + 1, (ckBox ck)), (w.heap.size + 1, (rdBox r)), (w.heap.size, (stBox s (.slice A cs.length c)))]) (by (repeat (with_reducible first | exact HR.out | apply Frm.drew | apply Frm.alloc | apply Frm.drewN))) hbz).b
    clear hbz x0 x1 x2
    go_wp2_with fail
    go_ret
    exact ⟨rfl, HZ.out⟩
  have HAG := Lib.hid hag
  have dr0 : 0 ≤ s.dr ∧ s.dr ≤ 100 := by
    rw [Bool.and_eq_true] at hag
    have hg := good_of_soundB hag.1
    exact ⟨hg.sane.d0, hg.dr1⟩
  clear hag
  go_wp2_with fail
  refine (agreed_is (by first | exact HC.out | exact HC.out.drew | exact HC.out.below (below_al (Below.refl _ _) _) | exact HC.out.drew.below (below_al (Below.refl _ _) _) | exact (HC.out.below (below_al (Below.refl _ _) _)).drew) HAG.out).mono ?_
  rintro e w1 ⟨rfl, hb⟩
  have HRq := Lib.hid (Frm.below (w := w) (bs := [(w.heap.size + 1 + 1, (ckBox ck)), (w.heap.size + 1, (rdBox r)), (w.heap.size, (stBox s (.slice A cs.length c)))]) (by (repeat (with_reducible first | exact HR.out | apply Frm.drew | apply Frm.alloc | apply Frm.drewN))) hb)
  have HCq := Lib.hid (Chks.below (cs := cs) (by first | exact HC.out | exact HC.out.drew | exact HC.out.below (below_al (Below.refl _ _) _) | exact HC.out.drew.below (below_al (Below.refl _ _) _) | exact (HC.out.below (below_al (Below.refl _ _) _)).drew) hb)
  clear HR HC hb x0 x1 x2
  have HR := HRq
  have HC := HCq
  clear HRq HCq
  have x0 := HR.out.cells (List.mem_cons_self ..)
  have x1 := HR.out.cells (List.mem_cons_of_mem _ (List.mem_cons_self ..))
  have x2 := HR.out.cells (List.mem_cons_of_mem _ (List.mem_cons_of_mem _ (List.mem_cons_self ..)))
  cases hr : readB r
  · have HX := Lib.hid hr
    clear hr
    go_wp2_with fail
    refine (rReading_is HX.out _).mono ?_
    rintro e w2 ⟨rfl, hb⟩
    have HRq := Lib.hid (Frm.below (w := w) (bs := [(w.heap.size + 1 + 1, (ckBox ck)), (w.heap.size + 1, (rdBox r)), (w.heap.size, (stBox s (.slice A cs.length c)))]) (by (repeat (with_reducible first | exact HR.out | apply Frm.drew | apply Frm.alloc | apply Frm.drewN))) hb)
    have HCq := Lib.hid (Chks.below (cs := cs) (by first | exact HC.out | exact HC.out.drew | exact HC.out.below (below_al (Below.refl _ _) _) | exact HC.out.drew.below (below_al (Below.refl _ _) _) | exact (HC.out.below (below_al (Below.refl _ _) _)).drew) hb)
    clear HR HC hb x0 x1 x2
    have HR := HRq
    have HC := HCq
    clear HRq HCq
    have x0 := HR.out.cells (List.mem_cons_self ..)
    have x1 := HR.out.cells (List.mem_cons_of_mem _ (List.mem_cons_self ..))
    have x2 := HR.out.cells (List.mem_cons_of_mem _ (List.mem_cons_of_mem _ (List.mem_cons_self ..)))
    go_wp2_with fail
    refine (known_ex _ (HH.out.below (Frm.b (w := w) (bs := [(w.heap.size + 1 + 1, (ckBox ck)), (w.heap.size + 1, (rdBox r)), (w.heap.size, (stBox s (.slice A cs.length c)))]) (by (repeat (with_reducible first | exact HR.out | apply Frm.drew | apply Frm.alloc | apply Frm.drewN))))) (HT.out.below (Frm.b (w := w) (bs := [(w.heap.size + 1 + 1, (ckBox ck)), (w.heap.size + 1, (rdBox r)), (w.heap.size, (stBox s (.slice A cs.length c)))]) (by (repeat (with_reducible first | exact HR.out | apply Frm.drew | apply Frm.alloc | apply Frm.drewN)))))).mono ?_
    rintro e wz ⟨rfl, hbz⟩
    have HZ := Lib.hid (Frm.below (w := w) (bs := [(w.heap.size + 1 + 1, (ckBox ck)), (w.heap.size + 1, (rdBox r)), (w.heap.size, (stBox s (.slice A cs.length c)))]) (by (repeat (with_reducible first | exact HR.out | apply Frm.drew | apply Frm.alloc | apply Frm.drewN))) hbz).b
    clear hbz x0 x1 x2
    go_wp2_with fail
    go_ret
    exact ⟨rfl, HZ.out⟩
  have Hr := Lib.hid hr
  clear hr
  go_wp2_with fail
  refine (rReading_is Hr.out _).mono ?_
  rintro e w2 ⟨rfl, hb⟩
  have HRq := Lib.hid (Frm.below (w := w) (bs := [(w.heap.size + 1 + 1, (ckBox ck)), (w.heap.size + 1, (rdBox r)), (w.heap.size, (stBox s (.slice A cs.length c)))]) (by (repeat (with_reducible first | exact HR.out | apply Frm.drew | apply Frm.alloc | apply Frm.drewN))) hb)
  have HCq := Lib.hid (Chks.below (cs := cs) (by first | exact HC.out | exact HC.out.drew | exact HC.out.below (below_al (Below.refl _ _) _) | exact HC.out.drew.below (below_al (Below.refl _ _) _) | exact (HC.out.below (below_al (Below.refl _ _) _)).drew) hb)
  clear HR HC hb x0 x1 x2
  have HR := HRq
  have HC := HCq
  clear HRq HCq
  have x0 := HR.out.cells (List.mem_cons_self ..)
  have x1 := HR.out.cells (List.mem_cons_of_mem _ (List.mem_cons_self ..))
  have x2 := HR.out.cells (List.mem_cons_of_mem _ (List.mem_cons_of_mem _ (List.mem_cons_self ..)))
  by_cases n0 : 12 ≤ cs.length
  · go_wp2_with fail
    refine (known_ex _ (HH.out.below (Frm.b (w := w) (bs := [(w.heap.size + 1 + 1, (ckBox ck)), (w.heap.size + 1, (rdBox r)), (w.heap.size, (stBox s (.slice A cs.length c)))]) (by (repeat (with_reducible first | exact HR.out | apply Frm.drew | apply Frm.alloc | apply Frm.drewN))))) (HT.out.below (Frm.b (w := w) (bs := [(w.heap.size + 1 + 1, (ckBox ck)), (w.heap.size + 1, (rdBox r)), (w.heap.size, (stBox s (.slice A cs.length c)))]) (by (repeat (with_reducible first | exact HR.out | apply Frm.drew | apply Frm.alloc | apply Frm.drewN)))))).mono ?_
    rintro e wz ⟨rfl, hbz⟩
    have HZ := Lib.hid (Frm.below (w := w) (bs := [(w.heap.size + 1 + 1, (ckBox ck)), (w.heap.size + 1, (rdBox r)), (w.heap.size, (stBox s (.slice A cs.length c)))]) (by (repeat (with_reducible first | exact HR.out | apply Frm.drew | apply Frm.alloc | apply Frm.drewN))) hbz).b
    clear hbz x0 x1 x2
    go_wp2_with fail
    go_ret
    exact ⟨rfl, HZ.out⟩
  by_cases n1 : le < 0
  · go_wp2_with fail
    refine (known_ex _ (HH.out.below (Frm.b (w := w) (bs := [(w.heap.size + 1 + 1, (ckBox ck)), (w.heap.size + 1, (rdBox r)), (w.heap.size, (stBox s (.slice A cs.length c)))]) (by (repeat (with_reducible first | exact HR.out | apply Frm.drew | apply Frm.alloc | apply Frm.drewN))))) (HT.out.below (Frm.b (w := w) (bs := [(w.heap.size + 1 + 1, (ckBox ck)), (w.heap.size + 1, (rdBox r)), (w.heap.size, (stBox s (.slice A cs.length c)))]) (by (repeat (with_reducible first | exact HR.out | apply Frm.drew | apply Frm.alloc | apply Frm.drewN)))))).mono ?_
    rintro e wz ⟨rfl, hbz⟩
    have HZ := Lib.hid (Frm.below (w := w) (bs := [(w.heap.size + 1 + 1, (ckBox ck)), (w.heap.size + 1, (rdBox r)), (w.heap.size, (stBox s (.slice A cs.length c)))]) (by (repeat (with_reducible first | exact HR.out | apply Frm.drew | apply Frm.alloc | apply Frm.drewN))) hbz).b
    clear hbz x0 x1 x2
    go_wp2_with fail
    go_ret
    exact ⟨rfl, HZ.out⟩
  by_cases n2 : s.dr < le
  · go_wp2_with fail
    refine (known_ex _ (HH.out.below (Frm.b (w := w) (bs := [(w.heap.size + 1 + 1, (ckBox ck)), (w.heap.size + 1, (rdBox r)), (w.heap.size, (stBox s (.slice A cs.length c)))]) (by (repeat (with_reducible first | exact HR.out | apply Frm.drew | apply Frm.alloc | apply Frm.drewN))))) (HT.out.below (Frm.b (w := w) (bs := [(w.heap.size + 1 + 1, (ckBox ck)), (w.heap.size + 1, (rdBox r)), (w.heap.size, (stBox s (.slice A cs.length c)))]) (by (repeat (with_reducible first | exact HR.out | apply Frm.drew | apply Frm.alloc | apply Frm.drewN)))))).mono ?_
    rintro e wz ⟨rfl, hbz⟩
    have HZ := Lib.hid (Frm.below (w := w) (bs := [(w.heap.size + 1 + 1, (ckBox ck)), (w.heap.size + 1, (rdBox r)), (w.heap.size, (stBox s (.slice A cs.length c)))]) (by (repeat (with_reducible first | exact HR.out | apply Frm.drew | apply Frm.alloc | apply Frm.drewN))) hbz).b
    clear hbz x0 x1 x2
    go_wp2_with fail
    go_ret
    exact ⟨rfl, HZ.out⟩
  by_cases n3 : lo < 0
  · go_wp2_with fail
    refine (known_ex _ (HH.out.below (Frm.b (w := w) (bs := [(w.heap.size + 1 + 1, (ckBox ck)), (w.heap.size + 1, (rdBox r)), (w.heap.size, (stBox s (.slice A cs.length c)))]) (by (repeat (with_reducible first | exact HR.out | apply Frm.drew | apply Frm.alloc | apply Frm.drewN))))) (HT.out.below (Frm.b (w := w) (bs := [(w.heap.size + 1 + 1, (ckBox ck)), (w.heap.size + 1, (rdBox r)), (w.heap.size, (stBox s (.slice A cs.length c)))]) (by (repeat (with_reducible first | exact HR.out | apply Frm.drew | apply Frm.alloc | apply Frm.drewN)))))).mono ?_
    rintro e wz ⟨rfl, hbz⟩
    have HZ := Lib.hid (Frm.below (w := w) (bs := [(w.heap.size + 1 + 1, (ckBox ck)), (w.heap.size + 1, (rdBox r)), (w.heap.size, (stBox s (.slice A cs.length c)))]) (by (repeat (with_reducible first | exact HR.out | apply Frm.drew | apply Frm.alloc | apply Frm.drewN))) hbz).b
    clear hbz x0 x1 x2
    go_wp2_with fail
    go_ret
    exact ⟨rfl, HZ.out⟩
  by_cases n4 : hi < lo
  · go_wp2_with fail
    refine (known_ex _ (HH.out.below (Frm.b (w := w) (bs := [(w.heap.size + 1 + 1, (ckBox ck)), (w.heap.size + 1, (rdBox r)), (w.heap.size, (stBox s (.slice A cs.length c)))]) (by (repeat (with_reducible first | exact HR.out | apply Frm.drew | apply Frm.alloc | apply Frm.drewN))))) (HT.out.below (Frm.b (w := w) (bs := [(w.heap.size + 1 + 1, (ckBox ck)), (w.heap.size + 1, (rdBox r)), (w.heap.size, (stBox s (.slice A cs.length c)))]) (by (repeat (with_reducible first | exact HR.out | apply Frm.drew | apply Frm.alloc | apply Frm.drewN)))))).mono ?_
    rintro e wz ⟨rfl, hbz⟩
    have HZ := Lib.hid (Frm.below (w := w) (bs := [(w.heap.size + 1 + 1, (ckBox ck)), (w.heap.size + 1, (rdBox r)), (w.heap.size, (stBox s (.slice A cs.length c)))]) (by (repeat (with_reducible first | exact HR.out | apply Frm.drew | apply Frm.alloc | apply Frm.drewN))) hbz).b
    clear hbz x0 x1 x2
    go_wp2_with fail
    go_ret
    exact ⟨rfl, HZ.out⟩
  by_cases n5 : 100 < hi
  · go_wp2_with fail
    refine (known_ex _ (HH.out.below (Frm.b (w := w) (bs := [(w.heap.size + 1 + 1, (ckBox ck)), (w.heap.size + 1, (rdBox r)), (w.heap.size, (stBox s (.slice A cs.length c)))]) (by (repeat (with_reducible first | exact HR.out | apply Frm.drew | apply Frm.alloc | apply Frm.drewN))))) (HT.out.below (Frm.b (w := w) (bs := [(w.heap.size + 1 + 1, (ckBox ck)), (w.heap.size + 1, (rdBox r)), (w.heap.size, (stBox s (.slice A cs.length c)))]) (by (repeat (with_reducible first | exact HR.out | apply Frm.drew | apply Frm.alloc | apply Frm.drewN)))))).mono ?_
    rintro e wz ⟨rfl, hbz⟩
    have HZ := Lib.hid (Frm.below (w := w) (bs := [(w.heap.size + 1 + 1, (ckBox ck)), (w.heap.size + 1, (rdBox r)), (w.heap.size, (stBox s (.slice A cs.length c)))]) (by (repeat (with_reducible first | exact HR.out | apply Frm.drew | apply Frm.alloc | apply Frm.drewN))) hbz).b
    clear hbz x0 x1 x2
    go_wp2_with fail
    go_ret
    exact ⟨rfl, HZ.out⟩
  obtain ⟨hs, ha⟩ : soundB s cs = true ∧ Agreed s cs := by
    have hag := HAG.out
    rw [Bool.and_eq_true] at hag
    exact ⟨hag.1, agB_iff.1 hag.2⟩
  have HS := Lib.hid hs
  have HA := Lib.hid ha
  clear hs ha
  go_wp2_with fail
  exact HKK.out _ _ (mo_2 _ _ _ _ _ _ _ _ _ _ _ _ _ _ _ _ _ _ _ _ _ _ _ _ _ _ _ _ _ _ _ _ _ _ _ _ _ _ _ _ _ _ _ _ _ _ _ _ _ _ _ _ _ _ _ _ _ _ _ _ _ _ _ _ _ _ _ _ _ _ _ _ _ _ _ _ _ _ _ _ _ _ _ _ _ _ _ _ _ _ _ _ _ _ _ _ _ _ _ _ _ _ _ _ _ _ _ _ _ _ _ _ _ _ _ _ _ _ _ _ _ _ _ _ _ _ _ _ _ _ _ _ _ _ _ _ _ _ _ _ _ _ _ _ _ _ _ _ _ _ _ _ _ _ _ _ _ _ _ _ _ _ _ _ _ _ _ _ _ _ _ _ _ _ _ _ _ _ _ _ _ _ _ _ _ _ _ _ _ _ _ _ _ _ _ _ _ _ _ _ _ _ _ _ HH HT HC0 HS HA Hr (by omega) (by omega) (by omega) (by omega) (by omega) (Lib.hid (show Frm w [(w.heap.size + 1 + 1, (ckBox ck)), (w.heap.size + 1, (rdBox r)), (w.heap.size, (stBox s (.slice A cs.length c)))] _ from (by (repeat (with_reducible first | exact HR.out | apply Frm.drew | apply Frm.alloc | apply Frm.drewN))))))

set_option maxHeartbeats 40000000 in
set_option maxRecDepth 100000 in
theorem lawGlassMore {s : Stn} {v : Value} {cs : List Chk} {r : Rdg} {ck : Chk} {le lo hi : Int} {w : World} (hc : Chks w v cs) (hh : Holds w) (ht : Tab w) :
    Calls Tryd.prog 3 #[stV s v, rdV r, ckV ck, .int .i64 le, .int .i64 lo, .int .i64 hi] w fun e w' => e = .returned (.bool true) ∧ Below w.heap.size w w' := by
  have hc0 := hc
  obtain ⟨A, c, rfl, hlc, hm, -⟩ := hc
  have hcap : (c : Int) ≤ 9223372036854775807 := by unfold maxLen at hm; omega
  have HR : Hid (Frm w [(w.heap.size + 1 + 1, (ckBox ck)), (w.heap.size + 1, (rdBox r)), (w.heap.size, (stBox s (.slice A cs.length c)))] (((w.alloc (stBox s (.slice A cs.length c))).alloc (rdBox r)).alloc (ckBox ck))) := Lib.hid ((((Frm.nil w).add _ (by simp)).add _ (by simp)).add _ (by simp))
  have HH := Lib.hid hh
  have HT := Lib.hid ht
  have HC0 := Lib.hid hc0
  clear hc0 hh ht
  go_enter Tryd.func3, Tryd.ntmps3
  show Code.wp Tryd.prog (.seq (headC (restC Tryd.f3 0)) (restC Tryd.f3 1)) _ _ _
  refine wp_seq_k (fun K hK => ?_)
  have HKK := Lib.hid hK
  clear hK
  generalize hQQ : (bodyPost Tryd.prog Tryd.f3 fun e w' => e = .returned (.bool true) ∧ Below w.heap.size w w') = Q0
  simp only [restC, headC, tailC, Tryd.f3]
  subst hQQ
  go_wp2_with fail
  exact HKK.out _ _ (mo_1 _ _ _ _ _ _ _ _ _ _ _ _ _ _ _ _ _ _ _ _ _ _ _ _ _ _ _ _ _ _ _ _ _ _ _ _ _ _ _ _ _ _ _ _ _ _ _ _ _ _ _ _ _ _ _ _ _ _ _ _ _ _ _ _ _ _ _ _ _ _ _ _ _ _ _ _ _ _ _ _ _ _ _ _ _ _ _ _ _ _ _ _ _ _ _ _ _ _ _ _ _ _ _ _ _ _ _ _ _ _ _ _ _ _ _ _ _ _ _ _ _ _ _ _ _ _ _ _ _ _ _ _ _ _ _ _ _ _ _ _ _ _ _ _ _ _ _ _ _ _ _ _ _ _ _ _ _ _ _ _ _ _ _ _ _ _ _ _ _ _ _ _ _ _ _ _ _ _ _ _ _ _ _ _ _ _ _ _ _ _ _ _ _ _ _ _ _ _ _ _ _ _ _ _ HH HT HC0 hcap hlc HR)

end PartOfMo1
end Go.Proofs.YtffgcphmakfikaaDoor
