/- Texts of the proof of PagerPlays: Pcr. -/
import Derived.Test.YtjnjjpdgifnnpaaGreatDoorM08
import Derived.Deep.DeepCutAuto
import Derived.Deep.CutBlock
import Derived.BigQuiet
namespace Go.Proofs.YtjnjjpdgifnnpaaGreatDoor
open Go.RowKit Go.Maps
set_option maxRecDepth 100000 in
set_option maxHeartbeats 20000000 in
theorem rest_ok {Q : Exit → Act → World → Prop} {v0 v1 v2 v3 v5 v6 v7 v9 v10 v11 v12 v13 v14 v15 v16 v17 v18 v19 v20 v21 v22 v23 v24 v25 v26 v27 v28 v29 v30 v31 v32 v33 v34 v35 v36 v37 v38 v39 v40 v41 v42 v43 v44 v45 v46 v47 v48 v49 v50 v51 v52 v53 v54 v55 v56 v57 v58 v59 v60 v61 v62 v63 v64 v65 v66 v67 v68 v69 v70 v71 v72 v73 v74 v75 v76 v77 v78 v79 v80 v81 v82 v83 v84 v85 v86 v87 v88 v89 v90 v91 v92 v93 v94 v95 v96 v97 v98 v99 v100 v101 v102 v103 v104 v105 v106 v107 v108 v109 v110 v111 v112 v113 v114 v115 v116 v117 v118 v119 v120 v121 v122 v123 v124 v125 v126 v127 v128 v129 v130 v131 v132 v133 v134 v135 v136 v137 v138 v139 v140 v141 v142 v143 v144 v145 v146 v147 v148 v149 v150 v151 v152 v153 v154 v155 v156 v157 v158 v159 v160 v161 v162 v163 v164 v165 v166 v167 v168 v169 v170 v171 v172 v173 v174 v175 v176 v177 v178 v179 v180 v181 v182 v183 v184 v185 v186 v187 v188 v189 v190 v191 v192 v193 v194 v195 v196 v197 v198 v199 v200 v201 v202 v203 v204 v205 v206 v207 v208 v209 v210 v211 v212 v213 v214 v215 v216 v217 v218 v219 v220 v221 v222 v223 v224 v225 v226 v227 v228 v229 v230 v231 v232 v233 v234 v235 v236 v237 v238 v239 v240 v241 v242 v243 v244 v245 v246 v247 v248 v249 v250 v251 v252 v253 v254 v255 v256 v257 v258 v259 v260 v261 v262 v263 v264 v265 v266 v267 v268 v269 v270 v271 v272 v273 v274 v275 v276 v277 v278 v279 v280 v281 v282 v283 v284 v285 v286 v287 v288 v289 v290 v291 v292 v293 v294 v295 v296 v297 v298 v299 v300 v301 v302 v303 v304 v305 v306 v307 v308 v309 v310 v311 v312 v313 v314 v315 v316 v317 v318 v319 v320 v321 v322 v323 v324 v325 v326 v327 v328 v329 v330 v331 : Value} {a0 b1 a2 b9 b10 a5 b6 b7 b8 c9 c10 k : Nat} {x : Ps} {d : Dc} {w wc : World}
    (HW : Hid (HG w)) (HE : Hid (Env (B11 a0 b1 a2 b9 b10 a5 b6 b7 b8 c9 c10) x d (2000 + 2 * (k + 1)) w wc)) (HA : Hid (Alike x d)) (hP : ∀ (c : List PanicEntry) (a : Act) (d : Option Tmp) (v : Value) (w : World), Q (.panic c) (a.put d v) w → Q (.panic c) a w)
    (hQ : ∀ (wz : World) (y2 y20 y21 y22 y23 y24 y25 y26 y250 y251 y252 y253 y254 y255 y256 y257 y258 y259 y260 y261 y262 y263 y264 y265 y266 y267 y268 y269 y270 y271 y272 y273 y274 y275 y276 y277 y278 y279 y280 y281 y282 y283 y284 y285 y286 y287 y288 y289 y290 y291 y292 y293 y294 y295 y296 y297 y298 y299 y300 y301 y302 y303 y304 y305 y306 y307 y308 y309 y310 y311 y312 y313 y314 y315 y316 y317 y318 y319 y320 y321 y322 y323 y324 y325 y326 y327 y328 y329 y330 y331 : Value), Hid (Env (B11 a0 b1 a2 b9 b10 a5 b6 b7 b8 c9 c10) x d (2000 + 2 * (k + 1)) w wz) → Q .normal { tmps := #[v0, v1, y2, v3, .pointer (some ⟨b1, 0, none⟩), v5, v6, v7, .pointer (some ⟨a2, 0, none⟩), v9, v10, v11, v12, v13, v14, v15, v16, v17, v18, v19, y20, y21, y22, y23, y24, y25, y26, v27, v28, v29, v30, v31, v32, v33, v34, v35, v36, v37, v38, v39, v40, v41, v42, v43, v44, v45, v46, v47, v48, v49, v50, v51, v52, v53, v54, v55, v56, v57, v58, v59, v60, v61, v62, v63, v64, v65, v66, v67, v68, v69, v70, v71, v72, v73, v74, v75, v76, v77, v78, v79, v80, v81, v82, v83, v84, v85, v86, v87, v88, v89, v90, v91, v92, v93, v94, v95, v96, v97, v98, v99, v100, v101, v102, v103, v104, v105, v106, v107, v108, v109, v110, v111, v112, v113, v114, v115, v116, v117, v118, v119, v120, v121, v122, v123, v124, v125, v126, v127, v128, v129, v130, v131, v132, v133, v134, v135, v136, v137, v138, v139, v140, v141, v142, v143, v144, v145, v146, v147, v148, v149, v150, v151, v152, v153, v154, v155, v156, v157, v158, v159, v160, v161, v162, v163, v164, v165, v166, v167, v168, v169, v170, v171, v172, v173, v174, v175, v176, v177, v178, v179, v180, v181, v182, v183, v184, v185, v186, v187, v188, v189, v190, v191, v192, v193, v194, v195, v196, v197, v198, v199, v200, v201, v202, v203, v204, v205, v206, v207, v208, v209, v210, v211, v212, v213, v214, v215, v216, v217, v218, v219, v220, v221, v222, v223, v224, v225, v226, v227, v228, v229, v230, v231, v232, v233, v234, v235, v236, v237, v238, v239, v240, v241, v242, v243, v244, v245, v246, v247, v248, v249, y250, y251, y252, y253, y254, y255, y256, y257, y258, y259, y260, y261, y262, y263, y264, y265, y266, y267, y268, y269, y270, y271, y272, y273, y274, y275, y276, y277, y278, y279, y280, y281, y282, y283, y284, y285, y286, y287, y288, y289, y290, y291, y292, y293, y294, y295, y296, y297, y298, y299, y300, y301, y302, y303, y304, y305, y306, y307, y308, y309, y310, y311, y312, y313, y314, y315, y316, y317, y318, y319, y320, y321, y322, y323, y324, y325, y326, y327, y328, y329, y330, y331], defers := [] } wz) :
    Code.wp Tryz.prog rsCode Q { tmps := #[v0, v1, v2, v3, .pointer (some ⟨b1, 0, none⟩), v5, v6, v7, .pointer (some ⟨a2, 0, none⟩), v9, v10, v11, v12, v13, v14, v15, v16, v17, v18, v19, v20, v21, v22, v23, v24, v25, v26, v27, v28, v29, v30, v31, v32, v33, v34, v35, v36, v37, v38, v39, v40, v41, v42, v43, v44, v45, v46, v47, v48, v49, v50, v51, v52, v53, v54, v55, v56, v57, v58, v59, v60, v61, v62, v63, v64, v65, v66, v67, v68, v69, v70, v71, v72, v73, v74, v75, v76, v77, v78, v79, v80, v81, v82, v83, v84, v85, v86, v87, v88, v89, v90, v91, v92, v93, v94, v95, v96, v97, v98, v99, v100, v101, v102, v103, v104, v105, v106, v107, v108, v109, v110, v111, v112, v113, v114, v115, v116, v117, v118, v119, v120, v121, v122, v123, v124, v125, v126, v127, v128, v129, v130, v131, v132, v133, v134, v135, v136, v137, v138, v139, v140, v141, v142, v143, v144, v145, v146, v147, v148, v149, v150, v151, v152, v153, v154, v155, v156, v157, v158, v159, v160, v161, v162, v163, v164, v165, v166, v167, v168, v169, v170, v171, v172, v173, v174, v175, v176, v177, v178, v179, v180, v181, v182, v183, v184, v185, v186, v187, v188, v189, v190, v191, v192, v193, v194, v195, v196, v197, v198, v199, v200, v201, v202, v203, v204, v205, v206, v207, v208, v209, v210, v211, v212, v213, v214, v215, v216, v217, v218, v219, v220, v221, v222, v223, v224, v225, v226, v227, v228, v229, v230, v231, v232, v233, v234, v235, v236, v237, v238, v239, v240, v241, v242, v243, v244, v245, v246, v247, v248, v249, v250, v251, v252, v253, v254, v255, v256, v257, v258, v259, v260, v261, v262, v263, v264, v265, v266, v267, v268, v269, v270, v271, v272, v273, v274, v275, v276, v277, v278, v279, v280, v281, v282, v283, v284, v285, v286, v287, v288, v289, v290, v291, v292, v293, v294, v295, v296, v297, v298, v299, v300, v301, v302, v303, v304, v305, v306, v307, v308, v309, v310, v311, v312, v313, v314, v315, v316, v317, v318, v319, v320, v321, v322, v323, v324, v325, v326, v327, v328, v329, v330, v331], defers := [] } wc := by
  have HQ : Hid _ := hQ
  have HP : Hid _ := hP
  clear hQ hP
  unfold rsCode
  go_wp2_with fail
  obtain ⟨C, hC⟩ : ∃ C, countU x.p.used 2000 = C := ⟨_, rfl⟩
  have hCl : C ≤ 2000 := by rw [← hC]; exact countU_le _ _
  have HLen : Hid (∀ wq, Env (B11 a0 b1 a2 b9 b10 a5 b6 b7 b8 c9 c10) x d (2000 + 2 * (k + 1)) w wq → UsdS a2 b7 C wq) := fun wq h => ⟨h.nowCell, by
    have h9 := len_text (show Texts b7 _ _ wq from h.now) 3
    rw [HA.out.F, view_count, hC] at h9
    exact h9⟩
  have HE3 : Hid (Env (B11 a0 b1 a2 b9 b10 a5 b6 b7 b8 c9 c10) x d (2000 + 2 * (k + 1)) w wc.drew) := HE.out.drew
  refine wp_region_held_drew (S := fun wq => UsdS a2 b7 C wq) (by kernel_rfl) (HLen.out _ HE3.out) ?_
  intro g0
  refine wpAnyH_take (i := 0) (oi := { dst := some 250, op := Op.move (Operand.tmp 4), type := 27, pos := "law.go:217", after := #[], guard := none }) (v := .pointer (some ⟨b1, 0, none⟩)) rfl (by kernel_rfl) (by kernel_rfl) (by kernel_rfl) (fun c a w h => HP.out c a _ _ w h) (Or.inl ⟨by rfl, fun wx _ => by go_simp⟩) g0 ?_
  simp only [Act.put, List.setIfInBounds_toArray, List.set_cons_zero, List.set_cons_succ]
  refine wpAnyH_take (i := 2) (oi := { dst := some 252, op := Op.fieldAddr 38 (Operand.tmp 8) 0, type := 0, pos := "law.go:217", after := #[], guard := none }) (v := .pointer (some ⟨a2, 0, none⟩)) rfl (by kernel_rfl) (by kernel_rfl) (by kernel_rfl) (fun c a w h => HP.out c a _ _ w h) (Or.inl ⟨by rfl, fun wx _ => by go_simp⟩) g0 ?_
  simp only [Act.put, List.setIfInBounds_toArray, List.set_cons_zero, List.set_cons_succ]
  refine wpAnyH_take (i := 3) (oi := { dst := some 253, op := Op.load 34 (Operand.tmp 252), type := 34, pos := "law.go:217", after := #[{ on := 2, ground := Ground.data }], guard := none }) (v := .map (some b7)) rfl (by kernel_rfl) (by kernel_rfl) (by kernel_rfl) (fun c a w h => HP.out c a _ _ w h) (Or.inl ⟨by rfl, fun wx h => by have h8 := UsdS.m h; go_simp⟩) g0 ?_
  simp only [Act.put, List.setIfInBounds_toArray, List.set_cons_zero, List.set_cons_succ]
  refine wpAnyH_ready (rs := [1]) (by kernel_rfl) (by decide) (AllReadyH.cons (o := { dst := some 251, op := Op.call { callee := Callee.value (Operand.func 18), args := #[Operand.tmp 250], argTypes := #[27] }, type := 3, pos := "law.go:217", after := #[{ on := 0, ground := Ground.data }], guard := none }) rfl (fun K hK => ?_) AllReadyH.nil)
  rw [if_pos (by rfl)]
  go_simp
  refine (used_any (show Cells b1 a0 b6 _ wc.drew from HE3.out.pgr.cells)).mono ?_
  rintro _ w7 ⟨rfl, hw7⟩
  subst w7
  rw [hC]
  refine hK.out _ _ (g0) (fun g1 => ?_)
  clear hK K
  try simp only [Act.put, List.setIfInBounds_toArray, List.set_cons_zero, List.set_cons_succ]
  refine wpAnyH_ready (rs := [4]) (by kernel_rfl) (by decide) (AllReadyH.cons (o := { dst := some 254, op := Op.call { callee := Callee.builtin Builtin.len, args := #[Operand.tmp 253], argTypes := #[34] }, type := 3, pos := "law.go:217", after := #[{ on := 3, ground := Ground.data }, { on := 1, ground := Ground.chain }], guard := none }) rfl (fun K hK => ?_) AllReadyH.nil)
  rw [if_pos (by rfl)]
  have h8 := g0.len
  go_simp
  refine hK.out _ _ (g0) (fun g2 => ?_)
  clear hK K
  try simp only [Act.put, List.setIfInBounds_toArray, List.set_cons_zero, List.set_cons_succ]
  refine wpAnyH_take (i := 5) (oi := { dst := some 255, op := Op.binOp BinOp.add 3 (Operand.tmp 254) (Operand.const (Value.int IntKind.i64 1)) 3, type := 3, pos := "law.go:217", after := #[{ on := 4, ground := Ground.data }], guard := none }) (v := .int .i64 ((C : Int) + 1)) rfl (by kernel_rfl) (by kernel_rfl) (by kernel_rfl) (fun c a w h => HP.out c a _ _ w h) (Or.inl ⟨by rfl, fun wx _ => by go_simp; exact wraps_i64 _ (by omega) (by omega)⟩) g0 ?_
  simp only [Act.put, List.setIfInBounds_toArray, List.set_cons_zero, List.set_cons_succ]
  refine wpAnyH_take (i := 6) (oi := { dst := some 256, op := Op.binOp BinOp.neq 3 (Operand.tmp 251) (Operand.tmp 255) 3, type := 4, pos := "law.go:217", after := #[{ on := 1, ground := Ground.data }, { on := 5, ground := Ground.data }], guard := none }) (v := .bool false) rfl (by kernel_rfl) (by kernel_rfl) (by kernel_rfl) (fun c a w h => HP.out c a _ _ w h) (Or.inl ⟨by rfl, fun wx _ => by go_simp <;> first | omega | (simp; omega)⟩) g0 ?_
  simp only [Act.put, List.setIfInBounds_toArray, List.set_cons_zero, List.set_cons_succ]
  refine wpAnyH_take (i := 7) (oi := { dst := some 257, op := Op.move (Operand.tmp 256), type := 4, pos := "law.go:217", after := #[{ on := 6, ground := Ground.data }, { on := 4, ground := Ground.chain }], guard := none }) (v := .bool false) rfl (by kernel_rfl) (by kernel_rfl) (by kernel_rfl) (fun c a w h => HP.out c a _ _ w h) (Or.inl ⟨by rfl, fun wx _ => by go_simp⟩) g0 ?_
  simp only [Act.put, List.setIfInBounds_toArray, List.set_cons_zero, List.set_cons_succ]
  refine wpAnyH_take (i := 8) (oi := { dst := some 258, op := Op.move (Operand.tmp 4), type := 27, pos := "law.go:217", after := #[{ on := 7, ground := Ground.guard }], guard := some (7, false) }) (v := .pointer (some ⟨b1, 0, none⟩)) rfl (by kernel_rfl) (by kernel_rfl) (by kernel_rfl) (fun c a w h => HP.out c a _ _ w h) (Or.inl ⟨by rfl, fun wx _ => by go_simp⟩) g0 ?_
  simp only [Act.put, List.setIfInBounds_toArray, List.set_cons_zero, List.set_cons_succ]
  refine wpAnyH_ready (rs := [9]) (by kernel_rfl) (by decide) (AllReadyH.cons (o := { dst := some 259, op := Op.call { callee := Callee.value (Operand.func 19), args := #[Operand.tmp 258], argTypes := #[27] }, type := 4, pos := "law.go:217", after := #[{ on := 8, ground := Ground.data }, { on := 7, ground := Ground.chain }, { on := 7, ground := Ground.guard }], guard := some (7, false) }) rfl (fun K hK => ?_) AllReadyH.nil)
  rw [if_pos (by rfl)]
  go_simp
  refine (down_any (show Cells b1 a0 b6 _ wc.drew from HE3.out.pgr.cells)).mono ?_
  rintro _ w7 ⟨rfl, hw7⟩
  subst w7
  rw [HE3.out.down]
  refine hK.out _ _ (g0) (fun g3 => ?_)
  clear hK K
  try simp only [Act.put, List.setIfInBounds_toArray, List.set_cons_zero, List.set_cons_succ]
  refine wpAnyH_take (i := 10) (oi := { dst := some 260, op := Op.pick (Operand.tmp 257) (Operand.const (Value.bool true)) (Operand.tmp 259), type := 4, pos := "law.go:217", after := #[{ on := 7, ground := Ground.data }, { on := 9, ground := Ground.data }], guard := none }) (v := .bool false) rfl (by kernel_rfl) (by kernel_rfl) (by kernel_rfl) (fun c a w h => HP.out c a _ _ w h) (Or.inl ⟨by rfl, fun wx _ => by go_simp⟩) g0 ?_
  simp only [Act.put, List.setIfInBounds_toArray, List.set_cons_zero, List.set_cons_succ]
  refine wpAnyH_done (by kernel_rfl) ?_ _
  clear g0 g1 g2 g3 HLen hC hCl HE
  generalize wc.drew = wd at *
  go_wp2_with fail
  go_loopw [20] (fun i wr => ∃ y : Int, -1 ≤ y ∧ y ≤ 12 ∧ i = .int .i64 y ∧ Hid (Env (B11 a0 b1 a2 b9 b10 a5 b6 b7 b8 c9 c10) x d (2000 + 2 * (k + 1)) w wr)) (fun i _ => (12 - intOf i).toNat)
  case atStart => exact ⟨-1, by omega, by omega, rfl, HE3⟩
  case round =>
    clear HE3
    obtain ⟨y, y0, y12, rfl, HE⟩ := hrel
    by_cases hy : y < 12
    · have HWf : Hid ((Lit.int .i64 y).wf = true) := WalkArith.wf_i64 (by omega)
      rcases HA.out.used y with ⟨j, rfl, hj, hu, hf⟩ | ⟨hc, hf⟩
      · by_cases h8 : j < 8
        · as_aux_lemma =>
            obtain ⟨T, hT⟩ : ∃ T, x.p.text x.s.pg j = T := ⟨_, rfl⟩
            rw [hT] at hf
            go_wp2_with fail
            refine (readp_yes (show PagerIs b1 a0 b6 _ x.p wr from HE.out.pgr) HE.out.prg HE.out.down j hj hu).mono ?_
            rintro _ w7 ⟨rfl, hb7⟩
            have HE7 : Hid (Env (B11 a0 b1 a2 b9 b10 a5 b6 b7 b8 c9 c10) x d (2000 + 2 * (k + 1)) w w7) := HE.out.step hb7
            have r2 : w7.cell? ⟨a2, 0, none⟩ = some (.map (some b7)) := HE7.out.nowCell
            rw [hT]
            clear hb7 hT hu HE
            go_wp2_with (refine look_text _ rfl _ _ rfl (show Texts b7 _ _ w7 from HE7.out.now) (j : Int) HWf.out rfl rfl ?_; rw [hf])
            clear r2 hf
            refine (root_yes (show Cells b1 a0 b6 _ w7 from HE7.out.pgr.cells) j h8).mono ?_
            rintro _ w8 ⟨rfl, hb8⟩
            have HE8 : Hid (Env (B11 a0 b1 a2 b9 b10 a5 b6 b7 b8 c9 c10) x d (2000 + 2 * (k + 1)) w w8) := HE7.out.step hb8
            have hr := HE8.out.nowR
            have q1 : w8.cell? ⟨a2, 1 + j * 2, none⟩ = some (.int .i64 (x.p.rp j)) := by
              have h9 := hr (1 + j * 2) (.int .i64 (d.ra j)) (by
                rw [show 1 + j * 2 = j * 2 + 1 by omega]
                show (rootsL d.ra d.rb)[j * 2]? = _
                rw [rootsL_get _ _ (by omega), if_pos (by omega), show j * 2 / 2 = j by omega])
              rw [Nat.zero_add, HA.out.ra j h8] at h9
              exact h9
            have q2 : w8.cell? ⟨a2, 1 + j * 2 + 1, none⟩ = some (.int .i64 (x.p.rn j)) := by
              have h9 := hr (1 + j * 2 + 1) (.int .i64 (d.rb j)) (by
                rw [show 1 + j * 2 + 1 = (j * 2 + 1) + 1 by omega]
                show (rootsL d.ra d.rb)[j * 2 + 1]? = _
                rw [rootsL_get _ _ (by omega), if_neg (by omega), show (j * 2 + 1) / 2 = j by omega])
              rw [Nat.zero_add, HA.out.rb j h8] at h9
              exact h9
            clear hb8 hr HE7
            generalize x.p.rp j = ro1 at *
            generalize x.p.rn j = ro2 at *
            have i8 : (j : Int) < 8 := by omega
            have heq := eq35 ro1 ro2 w8
            go_wp2_with fail
            go_roundw
            case rel => exact ⟨(j : Int) + 1, by omega, by omega, by go_num, HE8⟩
            case measure => simp [intOf]; omega
        · have HNo : Hid (¬ (0 ≤ (j : Int) ∧ (j : Int) < 8)) := fun h => by omega
          have hn8 : 8 ≤ (j : Int) := by omega
          as_aux_lemma =>
            obtain ⟨T, hT⟩ : ∃ T, x.p.text x.s.pg j = T := ⟨_, rfl⟩
            rw [hT] at hf
            go_wp2_with fail
            refine (readp_yes (show PagerIs b1 a0 b6 _ x.p wr from HE.out.pgr) HE.out.prg HE.out.down j hj hu).mono ?_
            rintro _ w7 ⟨rfl, hb7⟩
            have HE7 : Hid (Env (B11 a0 b1 a2 b9 b10 a5 b6 b7 b8 c9 c10) x d (2000 + 2 * (k + 1)) w w7) := HE.out.step hb7
            have r2 : w7.cell? ⟨a2, 0, none⟩ = some (.map (some b7)) := HE7.out.nowCell
            rw [hT]
            clear hb7 hT hu HE
            go_wp2_with (refine look_text _ rfl _ _ rfl (show Texts b7 _ _ w7 from HE7.out.now) (j : Int) HWf.out rfl rfl ?_; rw [hf])
            clear r2 hf
            refine (root_no (j : Int) HNo.out w7).mono ?_
            rintro _ w8 ⟨rfl, hw8⟩
            subst w8
            go_wp2_with fail
            refine (bare_any _ 2 _ (HE7.out.hg HW.out) (.inr (.inr ⟨rfl, rfl⟩))).mono ?_
            rintro _ w9 ⟨rfl, hb9⟩
            have HE9 : Hid (Env (B11 a0 b1 a2 b9 b10 a5 b6 b7 b8 c9 c10) x d (2000 + 2 * (k + 1)) w w9) := HE7.out.step hb9
            clear hb9 HE7
            go_wp2_with fail
            go_roundw
            case rel => exact ⟨(j : Int) + 1, by omega, by omega, by go_num, HE9⟩
            case measure => simp [intOf]; omega
      · by_cases hn0 : y < 0
        · have HNo : Hid (¬ (0 ≤ y ∧ y < 8)) := fun h => by omega
          as_aux_lemma =>
            go_wp2_with fail
            refine (readp_no (show Cells b1 a0 b6 _ wr from HE.out.pgr.cells) y hc).mono ?_
            rintro _ w6 ⟨rfl, hw6⟩
            subst w6
            have r2 : wr.cell? ⟨a2, 0, none⟩ = some (.map (some b7)) := HE.out.nowCell
            clear hc
            go_wp2_with (refine look_text _ rfl _ _ rfl (show Texts b7 _ _ wr from HE.out.now) y HWf.out rfl rfl ?_; rw [hf])
            refine (bare_any _ 2 _ (HE.out.hg HW.out) (.inr (.inr ⟨rfl, rfl⟩))).mono ?_
            rintro _ w7 ⟨rfl, hb7⟩
            have HE7 : Hid (Env (B11 a0 b1 a2 b9 b10 a5 b6 b7 b8 c9 c10) x d (2000 + 2 * (k + 1)) w w7) := HE.out.step hb7
            clear hb7 r2 hf HE
            go_wp2_with fail
            refine (root_no y HNo.out w7).mono ?_
            rintro _ w8 ⟨rfl, hw8⟩
            subst w8
            go_wp2_with fail
            refine (bare_any _ 2 _ (HE7.out.hg HW.out) (.inr (.inr ⟨rfl, rfl⟩))).mono ?_
            rintro _ w9 ⟨rfl, hb9⟩
            have HE9 : Hid (Env (B11 a0 b1 a2 b9 b10 a5 b6 b7 b8 c9 c10) x d (2000 + 2 * (k + 1)) w w9) := HE7.out.step hb9
            clear hb9 HE7
            go_wp2_with fail
            go_roundw
            case rel => exact ⟨y + 1, by omega, by omega, by go_num, HE9⟩
            case measure => simp [intOf]; omega
        · by_cases h8' : y < 8
          · obtain ⟨i, rfl⟩ : ∃ i : Nat, y = i := ⟨y.toNat, by omega⟩
            have h8 : i < 8 := by omega
            as_aux_lemma =>
              go_wp2_with fail
              refine (readp_no (show Cells b1 a0 b6 _ wr from HE.out.pgr.cells) (i : Int) hc).mono ?_
              rintro _ w6 ⟨rfl, hw6⟩
              subst w6
              have r2 : wr.cell? ⟨a2, 0, none⟩ = some (.map (some b7)) := HE.out.nowCell
              clear hc
              go_wp2_with (refine look_text _ rfl _ _ rfl (show Texts b7 _ _ wr from HE.out.now) (i : Int) HWf.out rfl rfl ?_; rw [hf])
              refine (bare_any _ 2 _ (HE.out.hg HW.out) (.inr (.inr ⟨rfl, rfl⟩))).mono ?_
              rintro _ w7 ⟨rfl, hb7⟩
              have HE7 : Hid (Env (B11 a0 b1 a2 b9 b10 a5 b6 b7 b8 c9 c10) x d (2000 + 2 * (k + 1)) w w7) := HE.out.step hb7
              clear hb7 r2 hf HE
              go_wp2_with fail
              refine (root_yes (show Cells b1 a0 b6 _ w7 from HE7.out.pgr.cells) i h8).mono ?_
              rintro _ w8 ⟨rfl, hb8⟩
              have HE8 : Hid (Env (B11 a0 b1 a2 b9 b10 a5 b6 b7 b8 c9 c10) x d (2000 + 2 * (k + 1)) w w8) := HE7.out.step hb8
              have hr := HE8.out.nowR
              have q1 : w8.cell? ⟨a2, 1 + i * 2, none⟩ = some (.int .i64 (x.p.rp i)) := by
                have h9 := hr (1 + i * 2) (.int .i64 (d.ra i)) (by
                  rw [show 1 + i * 2 = i * 2 + 1 by omega]
                  show (rootsL d.ra d.rb)[i * 2]? = _
                  rw [rootsL_get _ _ (by omega), if_pos (by omega), show i * 2 / 2 = i by omega])
                rw [Nat.zero_add, HA.out.ra i h8] at h9
                exact h9
              have q2 : w8.cell? ⟨a2, 1 + i * 2 + 1, none⟩ = some (.int .i64 (x.p.rn i)) := by
                have h9 := hr (1 + i * 2 + 1) (.int .i64 (d.rb i)) (by
                  rw [show 1 + i * 2 + 1 = (i * 2 + 1) + 1 by omega]
                  show (rootsL d.ra d.rb)[i * 2 + 1]? = _
                  rw [rootsL_get _ _ (by omega), if_neg (by omega), show (i * 2 + 1) / 2 = i by omega])
                rw [Nat.zero_add, HA.out.rb i h8] at h9
                exact h9
              clear hb8 hr HE7
              generalize x.p.rp i = ro1 at *
              generalize x.p.rn i = ro2 at *
              have i8 : (i : Int) < 8 := by omega
              have heq := eq35 ro1 ro2 w8
              go_wp2_with fail
              go_roundw
              case rel => exact ⟨(i : Int) + 1, by omega, by omega, by go_num, HE8⟩
              case measure => simp [intOf]; omega
          · have HNo : Hid (¬ (0 ≤ y ∧ y < 8)) := fun h => by omega
            have hn8 : 8 ≤ y := by omega
            as_aux_lemma =>
              go_wp2_with fail
              refine (readp_no (show Cells b1 a0 b6 _ wr from HE.out.pgr.cells) y hc).mono ?_
              rintro _ w6 ⟨rfl, hw6⟩
              subst w6
              have r2 : wr.cell? ⟨a2, 0, none⟩ = some (.map (some b7)) := HE.out.nowCell
              clear hc
              go_wp2_with (refine look_text _ rfl _ _ rfl (show Texts b7 _ _ wr from HE.out.now) y HWf.out rfl rfl ?_; rw [hf])
              refine (bare_any _ 2 _ (HE.out.hg HW.out) (.inr (.inr ⟨rfl, rfl⟩))).mono ?_
              rintro _ w7 ⟨rfl, hb7⟩
              have HE7 : Hid (Env (B11 a0 b1 a2 b9 b10 a5 b6 b7 b8 c9 c10) x d (2000 + 2 * (k + 1)) w w7) := HE.out.step hb7
              clear hb7 r2 hf HE
              go_wp2_with fail
              refine (root_no y HNo.out w7).mono ?_
              rintro _ w8 ⟨rfl, hw8⟩
              subst w8
              go_wp2_with fail
              refine (bare_any _ 2 _ (HE7.out.hg HW.out) (.inr (.inr ⟨rfl, rfl⟩))).mono ?_
              rintro _ w9 ⟨rfl, hb9⟩
              have HE9 : Hid (Env (B11 a0 b1 a2 b9 b10 a5 b6 b7 b8 c9 c10) x d (2000 + 2 * (k + 1)) w w9) := HE7.out.step hb9
              clear hb9 HE7
              go_wp2_with fail
              go_roundw
              case rel => exact ⟨y + 1, by omega, by omega, by go_num, HE9⟩
              case measure => simp [intOf]; omega
    · have hye : y = 12 := by omega
      subst hye
      go_wp2_with fail
      exact HQ.out _ _ _ _ _ _ _ _ _ _ _ _ _ _ _ _ _ _ _ _ _ _ _ _ _ _ _ _ _ _ _ _ _ _ _ _ _ _ _ _ _ _ _ _ _ _ _ _ _ _ _ _ _ _ _ _ _ _ _ _ _ _ _ _ _ _ _ _ _ _ _ _ _ _ _ _ _ _ _ _ _ _ _ _ _ _ _ _ _ _ _ HE
end Go.Proofs.YtjnjjpdgifnnpaaGreatDoor
