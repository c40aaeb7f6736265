/- Texts of the proof of PagerPlays: Pcn. -/
import Derived.Test.YtjnjjpdgifnnpaaGreatDoorM09
import Derived.Deep.DeepCutAuto
import Derived.Deep.CutBlock
import Derived.BigQuiet
namespace Go.Proofs.YtjnjjpdgifnnpaaGreatDoor
open Go.RowKit Go.Maps
def nineCode : Code := Code.region 9 #[{ dst := some 58, op := Op.load 38 (Operand.tmp 8), type := 38, pos := "law.go:151", after := #[], guard := none }, { dst := some 59, op := Op.call { callee := Callee.value (Operand.func 7), args := #[Operand.tmp 58], argTypes := #[38] }, type := 38, pos := "law.go:151", after := #[{ on := 0, ground := Ground.data }], guard := none }, { dst := some 60, op := Op.load 38 (Operand.tmp 8), type := 38, pos := "law.go:151", after := #[], guard := none }, { dst := some 61, op := Op.call { callee := Callee.value (Operand.func 7), args := #[Operand.tmp 60], argTypes := #[38] }, type := 38, pos := "law.go:151", after := #[{ on := 2, ground := Ground.data }, { on := 1, ground := Ground.chain }], guard := none }, { dst := some 9, op := Op.alloc 38, type := 0, pos := "law.go:151", after := #[], guard := none }, { dst := some 10, op := Op.alloc 38, type := 0, pos := "law.go:151", after := #[], guard := none }, { dst := none, op := Op.store 38 (Operand.tmp 9) (Operand.tmp 59), type := 0, pos := "law.go:151", after := #[{ on := 4, ground := Ground.data }, { on := 1, ground := Ground.data }, { on := 3, ground := Ground.chain }, { on := 0, ground := Ground.phase }, { on := 1, ground := Ground.phase }, { on := 2, ground := Ground.textOnly Departure.lateStores }, { on := 3, ground := Ground.textOnly Departure.lateStoresUnsure }, { on := 4, ground := Ground.phase }, { on := 5, ground := Ground.phase }], guard := none }, { dst := none, op := Op.store 38 (Operand.tmp 10) (Operand.tmp 61), type := 0, pos := "law.go:151", after := #[{ on := 5, ground := Ground.data }, { on := 3, ground := Ground.data }, { on := 6, ground := Ground.chain }, { on := 0, ground := Ground.phase }, { on := 1, ground := Ground.phase }, { on := 2, ground := Ground.phase }, { on := 3, ground := Ground.phase }, { on := 4, ground := Ground.phase }, { on := 5, ground := Ground.phase }, { on := 6, ground := Ground.phase }], guard := none }] true
set_option maxRecDepth 100000 in
set_option maxHeartbeats 20000000 in
theorem nine_ok {Q : Exit → Act → World → Prop} {v0 v1 v2 v3 v4 v5 v6 v7 v9 v10 v11 v12 v13 v14 v15 v16 v17 v18 v19 v20 v21 v22 v23 v24 v25 v26 v27 v28 v29 v30 v31 v32 v33 v34 v35 v36 v37 v38 v39 v40 v41 v42 v43 v44 v45 v46 v47 v48 v49 v50 v51 v52 v53 v54 v55 v56 v57 v58 v59 v60 v61 v62 v63 v64 v65 v66 v67 v68 v69 v70 v71 v72 v73 v74 v75 v76 v77 v78 v79 v80 v81 v82 v83 v84 v85 v86 v87 v88 v89 v90 v91 v92 v93 v94 v95 v96 v97 v98 v99 v100 v101 v102 v103 v104 v105 v106 v107 v108 v109 v110 v111 v112 v113 v114 v115 v116 v117 v118 v119 v120 v121 v122 v123 v124 v125 v126 v127 v128 v129 v130 v131 v132 v133 v134 v135 v136 v137 v138 v139 v140 v141 v142 v143 v144 v145 v146 v147 v148 v149 v150 v151 v152 v153 v154 v155 v156 v157 v158 v159 v160 v161 v162 v163 v164 v165 v166 v167 v168 v169 v170 v171 v172 v173 v174 v175 v176 v177 v178 v179 v180 v181 v182 v183 v184 v185 v186 v187 v188 v189 v190 v191 v192 v193 v194 v195 v196 v197 v198 v199 v200 v201 v202 v203 v204 v205 v206 v207 v208 v209 v210 v211 v212 v213 v214 v215 v216 v217 v218 v219 v220 v221 v222 v223 v224 v225 v226 v227 v228 v229 v230 v231 v232 v233 v234 v235 v236 v237 v238 v239 v240 v241 v242 v243 v244 v245 v246 v247 v248 v249 v250 v251 v252 v253 v254 v255 v256 v257 v258 v259 v260 v261 v262 v263 v264 v265 v266 v267 v268 v269 v270 v271 v272 v273 v274 v275 v276 v277 v278 v279 v280 v281 v282 v283 v284 v285 v286 v287 v288 v289 v290 v291 v292 v293 v294 v295 v296 v297 v298 v299 v300 v301 v302 v303 v304 v305 v306 v307 v308 v309 v310 v311 v312 v313 v314 v315 v316 v317 v318 v319 v320 v321 v322 v323 v324 v325 v326 v327 v328 v329 v330 v331 : Value} {w2 w3 : World} {M : List Value} (hM : pagesL w2.heap.size (fun _ => 0) (fun _ => 0) = M) (H3 : Hid (First w2 M w3)) (hP : ∀ (c : List PanicEntry) (a : Act) (d : Option Tmp) (v : Value) (w : World), Q (.panic c) (a.put d v) w → Q (.panic c) a w)
    (hQ : ∀ (b9 b10 m1 m2 : Nat) (wz : World) (y58 y59 y60 y61 : Value), Hid (Nin2 w3 w2.heap.size (w2.heap.size + 1) M b9 b10 m1 m2 wz) → Q .normal { tmps := #[v0, v1, v2, v3, v4, v5, v6, v7, .pointer (some ⟨w2.heap.size + 1, 0, none⟩), .pointer (some ⟨b9, 0, none⟩), .pointer (some ⟨b10, 0, none⟩), v11, v12, v13, v14, v15, v16, v17, v18, v19, v20, v21, v22, v23, v24, v25, v26, v27, v28, v29, v30, v31, v32, v33, v34, v35, v36, v37, v38, v39, v40, v41, v42, v43, v44, v45, v46, v47, v48, v49, v50, v51, v52, v53, v54, v55, v56, v57, y58, y59, y60, y61, v62, v63, v64, v65, v66, v67, v68, v69, v70, v71, v72, v73, v74, v75, v76, v77, v78, v79, v80, v81, v82, v83, v84, v85, v86, v87, v88, v89, v90, v91, v92, v93, v94, v95, v96, v97, v98, v99, v100, v101, v102, v103, v104, v105, v106, v107, v108, v109, v110, v111, v112, v113, v114, v115, v116, v117, v118, v119, v120, v121, v122, v123, v124, v125, v126, v127, v128, v129, v130, v131, v132, v133, v134, v135, v136, v137, v138, v139, v140, v141, v142, v143, v144, v145, v146, v147, v148, v149, v150, v151, v152, v153, v154, v155, v156, v157, v158, v159, v160, v161, v162, v163, v164, v165, v166, v167, v168, v169, v170, v171, v172, v173, v174, v175, v176, v177, v178, v179, v180, v181, v182, v183, v184, v185, v186, v187, v188, v189, v190, v191, v192, v193, v194, v195, v196, v197, v198, v199, v200, v201, v202, v203, v204, v205, v206, v207, v208, v209, v210, v211, v212, v213, v214, v215, v216, v217, v218, v219, v220, v221, v222, v223, v224, v225, v226, v227, v228, v229, v230, v231, v232, v233, v234, v235, v236, v237, v238, v239, v240, v241, v242, v243, v244, v245, v246, v247, v248, v249, v250, v251, v252, v253, v254, v255, v256, v257, v258, v259, v260, v261, v262, v263, v264, v265, v266, v267, v268, v269, v270, v271, v272, v273, v274, v275, v276, v277, v278, v279, v280, v281, v282, v283, v284, v285, v286, v287, v288, v289, v290, v291, v292, v293, v294, v295, v296, v297, v298, v299, v300, v301, v302, v303, v304, v305, v306, v307, v308, v309, v310, v311, v312, v313, v314, v315, v316, v317, v318, v319, v320, v321, v322, v323, v324, v325, v326, v327, v328, v329, v330, v331], defers := [] } wz) :
    Code.wp Tryz.prog nineCode Q { tmps := #[v0, v1, v2, v3, v4, v5, v6, v7, .pointer (some ⟨w2.heap.size + 1, 0, none⟩), v9, v10, v11, v12, v13, v14, v15, v16, v17, v18, v19, v20, v21, v22, v23, v24, v25, v26, v27, v28, v29, v30, v31, v32, v33, v34, v35, v36, v37, v38, v39, v40, v41, v42, v43, v44, v45, v46, v47, v48, v49, v50, v51, v52, v53, v54, v55, v56, v57, v58, v59, v60, v61, v62, v63, v64, v65, v66, v67, v68, v69, v70, v71, v72, v73, v74, v75, v76, v77, v78, v79, v80, v81, v82, v83, v84, v85, v86, v87, v88, v89, v90, v91, v92, v93, v94, v95, v96, v97, v98, v99, v100, v101, v102, v103, v104, v105, v106, v107, v108, v109, v110, v111, v112, v113, v114, v115, v116, v117, v118, v119, v120, v121, v122, v123, v124, v125, v126, v127, v128, v129, v130, v131, v132, v133, v134, v135, v136, v137, v138, v139, v140, v141, v142, v143, v144, v145, v146, v147, v148, v149, v150, v151, v152, v153, v154, v155, v156, v157, v158, v159, v160, v161, v162, v163, v164, v165, v166, v167, v168, v169, v170, v171, v172, v173, v174, v175, v176, v177, v178, v179, v180, v181, v182, v183, v184, v185, v186, v187, v188, v189, v190, v191, v192, v193, v194, v195, v196, v197, v198, v199, v200, v201, v202, v203, v204, v205, v206, v207, v208, v209, v210, v211, v212, v213, v214, v215, v216, v217, v218, v219, v220, v221, v222, v223, v224, v225, v226, v227, v228, v229, v230, v231, v232, v233, v234, v235, v236, v237, v238, v239, v240, v241, v242, v243, v244, v245, v246, v247, v248, v249, v250, v251, v252, v253, v254, v255, v256, v257, v258, v259, v260, v261, v262, v263, v264, v265, v266, v267, v268, v269, v270, v271, v272, v273, v274, v275, v276, v277, v278, v279, v280, v281, v282, v283, v284, v285, v286, v287, v288, v289, v290, v291, v292, v293, v294, v295, v296, v297, v298, v299, v300, v301, v302, v303, v304, v305, v306, v307, v308, v309, v310, v311, v312, v313, v314, v315, v316, v317, v318, v319, v320, v321, v322, v323, v324, v325, v326, v327, v328, v329, v330, v331], defers := [] } w3 := by
  have HQ : Hid _ := hQ
  have HP : Hid _ := hP
  clear hQ hP
  obtain ⟨Z, hz, sZ⟩ := zero38
  obtain ⟨sM, _, _, _⟩ := pg_facts hM
  unfold nineCode
  have HN0 : Hid (Nine w3 w2.heap.size (w2.heap.size + 1) M none none none none w3.drew) := H3.out.nine
  refine wp_region_held_drew (S := fun wx => wx.rangeAt (w2.heap.size + 1) 0 M) (by kernel_rfl) HN0.out.row ?_
  intro g0
  obtain ⟨wd, hwd⟩ : ∃ wd, w3.drew = wd := ⟨_, rfl⟩
  rw [hwd] at HN0 g0
  rw [hwd]
  clear hwd
  refine wpAnyH_take (i := 0) (oi := { dst := some 58, op := Op.load 38 (Operand.tmp 8), type := 38, pos := "law.go:151", after := #[], guard := none }) (v := .agg M.toArray) rfl (by kernel_rfl) (by kernel_rfl) (by kernel_rfl) (fun c a w h => HP.out c a _ _ w h) (yieldsIf_load_mid (by rfl) 38 _ rfl _ 0 rfl M _ (fun wx h => h) Tryz.underlying38 rfl sM) g0 ?_
  simp only [Act.put, List.setIfInBounds_toArray, List.set_cons_zero, List.set_cons_succ]
  refine wpAnyH_take (i := 2) (oi := { dst := some 60, op := Op.load 38 (Operand.tmp 8), type := 38, pos := "law.go:151", after := #[], guard := none }) (v := .agg M.toArray) rfl (by kernel_rfl) (by kernel_rfl) (by kernel_rfl) (fun c a w h => HP.out c a _ _ w h) (yieldsIf_load_mid (by rfl) 38 _ rfl _ 0 rfl M _ (fun wx h => h) Tryz.underlying38 rfl sM) g0 ?_
  simp only [Act.put, List.setIfInBounds_toArray, List.set_cons_zero, List.set_cons_succ]
  refine wpAnyH_ready (rs := [1, 4, 5]) (by kernel_rfl) (by decide) (AllReadyH.cons (o := { dst := some 59, op := Op.call { callee := Callee.value (Operand.func 7), args := #[Operand.tmp 58], argTypes := #[38] }, type := 38, pos := "law.go:151", after := #[{ on := 0, ground := Ground.data }], guard := none }) rfl (fun K hK => ?_) (AllReadyH.cons (o := { dst := some 9, op := Op.alloc 38, type := 0, pos := "law.go:151", after := #[], guard := none }) rfl (fun K hK => ?_) (AllReadyH.cons (o := { dst := some 10, op := Op.alloc 38, type := 0, pos := "law.go:151", after := #[], guard := none }) rfl (fun K hK => ?_) AllReadyH.nil)))
  · as_aux_lemma =>
      rw [if_pos (by rfl)]
      go_simp
      rw [← hM]
      refine (copy_any HN0.out.base _ _).mono ?_
      rintro _ wn1 ⟨mm1, rfl, hk, hT, hb⟩
      have HN1 : Hid _ := HN0.out.copy1 hk hT hb
      clear hk hT hb
      rw [hM]
      refine hK.out _ _ HN1.out.row (fun gg1 => ?_)
      clear hK K g0
      refine wpAnyH_ready (rs := [3, 4, 5]) (by kernel_rfl) (by decide) (AllReadyH.cons (o := { dst := some 61, op := Op.call { callee := Callee.value (Operand.func 7), args := #[Operand.tmp 60], argTypes := #[38] }, type := 38, pos := "law.go:151", after := #[{ on := 2, ground := Ground.data }, { on := 1, ground := Ground.chain }], guard := none }) rfl (fun K hK => ?_) (AllReadyH.cons (o := { dst := some 9, op := Op.alloc 38, type := 0, pos := "law.go:151", after := #[], guard := none }) rfl (fun K hK => ?_) (AllReadyH.cons (o := { dst := some 10, op := Op.alloc 38, type := 0, pos := "law.go:151", after := #[], guard := none }) rfl (fun K hK => ?_) AllReadyH.nil)))
      · as_aux_lemma =>
          rw [if_pos (by rfl)]
          go_simp
          rw [← hM]
          refine (copy_any HN1.out.base _ _).mono ?_
          rintro _ wn2 ⟨mm2, rfl, hk, hT, hb⟩
          have HN2 : Hid _ := HN1.out.copy2 hk hT hb
          clear hk hT hb
          rw [hM]
          refine hK.out _ _ HN2.out.row (fun gg2 => ?_)
          clear hK K gg1
          refine wpAnyH_ready (rs := [4, 5]) (by kernel_rfl) (by decide) (AllReadyH.cons (o := { dst := some 9, op := Op.alloc 38, type := 0, pos := "law.go:151", after := #[], guard := none }) rfl (fun K hK => ?_) (AllReadyH.cons (o := { dst := some 10, op := Op.alloc 38, type := 0, pos := "law.go:151", after := #[], guard := none }) rfl (fun K hK => ?_) AllReadyH.nil))
          · as_aux_lemma =>
              rw [if_pos (by rfl)]
              go_simp
              have HN3 : Hid _ := HN2.out.alloc9 Z sZ
              refine hK.out _ _ HN3.out.row (fun gg3 => ?_)
              clear hK K
              obtain ⟨wn3, hwn3⟩ : ∃ wq, wn2.alloc (.cells Z 38) = wq := ⟨_, rfl⟩
              obtain ⟨bb3, hbb3⟩ : ∃ bq, wn2.heap.size = bq := ⟨_, rfl⟩
              rw [hwn3] at HN3 gg3
              rw [hwn3]
              rw [hbb3] at HN3
              try rw [hbb3]
              clear hwn3 hbb3 gg2
              refine wpAnyH_ready (rs := [5]) (by kernel_rfl) (by decide) (AllReadyH.cons (o := { dst := some 10, op := Op.alloc 38, type := 0, pos := "law.go:151", after := #[], guard := none }) rfl (fun K hK => ?_) AllReadyH.nil)
              · as_aux_lemma =>
                  rw [if_pos (by rfl)]
                  go_simp
                  have HN4 : Hid _ := HN3.out.alloc10 Z sZ
                  refine hK.out _ _ HN4.out.row (fun gg4 => ?_)
                  clear hK K
                  obtain ⟨wn4, hwn4⟩ : ∃ wq, wn3.alloc (.cells Z 38) = wq := ⟨_, rfl⟩
                  obtain ⟨bb4, hbb4⟩ : ∃ bq, wn3.heap.size = bq := ⟨_, rfl⟩
                  rw [hwn4] at HN4 gg4
                  rw [hwn4]
                  rw [hbb4] at HN4
                  try rw [hbb4]
                  clear hwn4 hbb4 gg3
                  obtain ⟨L1, hL1⟩ : ∃ L1, pagesL mm1 (fun _ => 0) (fun _ => 0) = L1 := ⟨_, rfl⟩
                  obtain ⟨L2, hL2⟩ : ∃ L2, pagesL mm2 (fun _ => 0) (fun _ => 0) = L2 := ⟨_, rfl⟩
                  have HF : Hid (Nin2 w3 w2.heap.size (w2.heap.size + 1) M bb3 bb4 mm1 mm2 ((wn4.setCells bb3 0 L1).setCells bb4 0 L2)) := HN4.out.stored L1 L2 hL1.symm hL2.symm
                  obtain ⟨f1, f2, f3, f4, f5, f6, f7⟩ := nine_facts HN4.out L1 L2 hL1.symm hL2.symm
                  rw [hL1, hL2]
                  refine wpAnyH_ready (rs := [6]) (by kernel_rfl) (by decide) (AllReadyH.cons (o := { dst := none, op := Op.store 38 (Operand.tmp 9) (Operand.tmp 59), type := 0, pos := "law.go:151", after := #[{ on := 4, ground := Ground.data }, { on := 1, ground := Ground.data }, { on := 3, ground := Ground.chain }, { on := 0, ground := Ground.phase }, { on := 1, ground := Ground.phase }, { on := 2, ground := Ground.textOnly Departure.lateStores }, { on := 3, ground := Ground.textOnly Departure.lateStoresUnsure }, { on := 4, ground := Ground.phase }, { on := 5, ground := Ground.phase }], guard := none }) rfl (fun K hK => ?_) AllReadyH.nil)
                  rw [if_pos (by rfl)]
                  refine wp_store_mid 38 _ _ rfl _ 0 L1.toArray rfl rfl f1 f3 f5 ?_
                  refine hK.out _ _ (f7) (fun g8 => ?_)
                  clear hK K
                  simp only [Act.put]
                  refine wpAnyH_ready (rs := [7]) (by kernel_rfl) (by decide) (AllReadyH.cons (o := { dst := none, op := Op.store 38 (Operand.tmp 10) (Operand.tmp 61), type := 0, pos := "law.go:151", after := #[{ on := 5, ground := Ground.data }, { on := 3, ground := Ground.data }, { on := 6, ground := Ground.chain }, { on := 0, ground := Ground.phase }, { on := 1, ground := Ground.phase }, { on := 2, ground := Ground.phase }, { on := 3, ground := Ground.phase }, { on := 4, ground := Ground.phase }, { on := 5, ground := Ground.phase }, { on := 6, ground := Ground.phase }], guard := none }) rfl (fun K hK => ?_) AllReadyH.nil)
                  rw [if_pos (by rfl)]
                  refine wp_store_mid 38 _ _ rfl _ 0 L2.toArray rfl rfl f2 f4 f6 ?_
                  refine hK.out _ _ (HF.out.row) (fun g9 => ?_)
                  clear hK K
                  simp only [Act.put]
                  refine wpAnyH_done (by kernel_rfl) ?_ _
                  exact HQ.out bb3 bb4 mm1 mm2 _ _ _ _ _ HF
          · as_aux_lemma =>
              rw [if_pos (by rfl)]
              go_simp
              have HN5 : Hid _ := HN2.out.alloc10 Z sZ
              refine hK.out _ _ HN5.out.row (fun gg5 => ?_)
              clear hK K
              obtain ⟨wn5, hwn5⟩ : ∃ wq, wn2.alloc (.cells Z 38) = wq := ⟨_, rfl⟩
              obtain ⟨bb5, hbb5⟩ : ∃ bq, wn2.heap.size = bq := ⟨_, rfl⟩
              rw [hwn5] at HN5 gg5
              rw [hwn5]
              rw [hbb5] at HN5
              try rw [hbb5]
              clear hwn5 hbb5 gg2
              refine wpAnyH_ready (rs := [4]) (by kernel_rfl) (by decide) (AllReadyH.cons (o := { dst := some 9, op := Op.alloc 38, type := 0, pos := "law.go:151", after := #[], guard := none }) rfl (fun K hK => ?_) AllReadyH.nil)
              · as_aux_lemma =>
                  rw [if_pos (by rfl)]
                  go_simp
                  have HN6 : Hid _ := HN5.out.alloc9 Z sZ
                  refine hK.out _ _ HN6.out.row (fun gg6 => ?_)
                  clear hK K
                  obtain ⟨wn6, hwn6⟩ : ∃ wq, wn5.alloc (.cells Z 38) = wq := ⟨_, rfl⟩
                  obtain ⟨bb6, hbb6⟩ : ∃ bq, wn5.heap.size = bq := ⟨_, rfl⟩
                  rw [hwn6] at HN6 gg6
                  rw [hwn6]
                  rw [hbb6] at HN6
                  try rw [hbb6]
                  clear hwn6 hbb6 gg5
                  obtain ⟨L1, hL1⟩ : ∃ L1, pagesL mm1 (fun _ => 0) (fun _ => 0) = L1 := ⟨_, rfl⟩
                  obtain ⟨L2, hL2⟩ : ∃ L2, pagesL mm2 (fun _ => 0) (fun _ => 0) = L2 := ⟨_, rfl⟩
                  have HF : Hid (Nin2 w3 w2.heap.size (w2.heap.size + 1) M bb6 bb5 mm1 mm2 ((wn6.setCells bb6 0 L1).setCells bb5 0 L2)) := HN6.out.stored L1 L2 hL1.symm hL2.symm
                  obtain ⟨f1, f2, f3, f4, f5, f6, f7⟩ := nine_facts HN6.out L1 L2 hL1.symm hL2.symm
                  rw [hL1, hL2]
                  refine wpAnyH_ready (rs := [6]) (by kernel_rfl) (by decide) (AllReadyH.cons (o := { dst := none, op := Op.store 38 (Operand.tmp 9) (Operand.tmp 59), type := 0, pos := "law.go:151", after := #[{ on := 4, ground := Ground.data }, { on := 1, ground := Ground.data }, { on := 3, ground := Ground.chain }, { on := 0, ground := Ground.phase }, { on := 1, ground := Ground.phase }, { on := 2, ground := Ground.textOnly Departure.lateStores }, { on := 3, ground := Ground.textOnly Departure.lateStoresUnsure }, { on := 4, ground := Ground.phase }, { on := 5, ground := Ground.phase }], guard := none }) rfl (fun K hK => ?_) AllReadyH.nil)
                  rw [if_pos (by rfl)]
                  refine wp_store_mid 38 _ _ rfl _ 0 L1.toArray rfl rfl f1 f3 f5 ?_
                  refine hK.out _ _ (f7) (fun g8 => ?_)
                  clear hK K
                  simp only [Act.put]
                  refine wpAnyH_ready (rs := [7]) (by kernel_rfl) (by decide) (AllReadyH.cons (o := { dst := none, op := Op.store 38 (Operand.tmp 10) (Operand.tmp 61), type := 0, pos := "law.go:151", after := #[{ on := 5, ground := Ground.data }, { on := 3, ground := Ground.data }, { on := 6, ground := Ground.chain }, { on := 0, ground := Ground.phase }, { on := 1, ground := Ground.phase }, { on := 2, ground := Ground.phase }, { on := 3, ground := Ground.phase }, { on := 4, ground := Ground.phase }, { on := 5, ground := Ground.phase }, { on := 6, ground := Ground.phase }], guard := none }) rfl (fun K hK => ?_) AllReadyH.nil)
                  rw [if_pos (by rfl)]
                  refine wp_store_mid 38 _ _ rfl _ 0 L2.toArray rfl rfl f2 f4 f6 ?_
                  refine hK.out _ _ (HF.out.row) (fun g9 => ?_)
                  clear hK K
                  simp only [Act.put]
                  refine wpAnyH_done (by kernel_rfl) ?_ _
                  exact HQ.out bb6 bb5 mm1 mm2 _ _ _ _ _ HF
      · as_aux_lemma =>
          rw [if_pos (by rfl)]
          go_simp
          have HN7 : Hid _ := HN1.out.alloc9 Z sZ
          refine hK.out _ _ HN7.out.row (fun gg7 => ?_)
          clear hK K
          obtain ⟨wn7, hwn7⟩ : ∃ wq, wn1.alloc (.cells Z 38) = wq := ⟨_, rfl⟩
          obtain ⟨bb7, hbb7⟩ : ∃ bq, wn1.heap.size = bq := ⟨_, rfl⟩
          rw [hwn7] at HN7 gg7
          rw [hwn7]
          rw [hbb7] at HN7
          try rw [hbb7]
          clear hwn7 hbb7 gg1
          refine wpAnyH_ready (rs := [3, 5]) (by kernel_rfl) (by decide) (AllReadyH.cons (o := { dst := some 61, op := Op.call { callee := Callee.value (Operand.func 7), args := #[Operand.tmp 60], argTypes := #[38] }, type := 38, pos := "law.go:151", after := #[{ on := 2, ground := Ground.data }, { on := 1, ground := Ground.chain }], guard := none }) rfl (fun K hK => ?_) (AllReadyH.cons (o := { dst := some 10, op := Op.alloc 38, type := 0, pos := "law.go:151", after := #[], guard := none }) rfl (fun K hK => ?_) AllReadyH.nil))
          · as_aux_lemma =>
              rw [if_pos (by rfl)]
              go_simp
              rw [← hM]
              refine (copy_any HN7.out.base _ _).mono ?_
              rintro _ wn8 ⟨mm8, rfl, hk, hT, hb⟩
              have HN8 : Hid _ := HN7.out.copy2 hk hT hb
              clear hk hT hb
              rw [hM]
              refine hK.out _ _ HN8.out.row (fun gg8 => ?_)
              clear hK K gg7
              refine wpAnyH_ready (rs := [5]) (by kernel_rfl) (by decide) (AllReadyH.cons (o := { dst := some 10, op := Op.alloc 38, type := 0, pos := "law.go:151", after := #[], guard := none }) rfl (fun K hK => ?_) AllReadyH.nil)
              · as_aux_lemma =>
                  rw [if_pos (by rfl)]
                  go_simp
                  have HN9 : Hid _ := HN8.out.alloc10 Z sZ
                  refine hK.out _ _ HN9.out.row (fun gg9 => ?_)
                  clear hK K
                  obtain ⟨wn9, hwn9⟩ : ∃ wq, wn8.alloc (.cells Z 38) = wq := ⟨_, rfl⟩
                  obtain ⟨bb9, hbb9⟩ : ∃ bq, wn8.heap.size = bq := ⟨_, rfl⟩
                  rw [hwn9] at HN9 gg9
                  rw [hwn9]
                  rw [hbb9] at HN9
                  try rw [hbb9]
                  clear hwn9 hbb9 gg8
                  obtain ⟨L1, hL1⟩ : ∃ L1, pagesL mm1 (fun _ => 0) (fun _ => 0) = L1 := ⟨_, rfl⟩
                  obtain ⟨L2, hL2⟩ : ∃ L2, pagesL mm8 (fun _ => 0) (fun _ => 0) = L2 := ⟨_, rfl⟩
                  have HF : Hid (Nin2 w3 w2.heap.size (w2.heap.size + 1) M bb7 bb9 mm1 mm8 ((wn9.setCells bb7 0 L1).setCells bb9 0 L2)) := HN9.out.stored L1 L2 hL1.symm hL2.symm
                  obtain ⟨f1, f2, f3, f4, f5, f6, f7⟩ := nine_facts HN9.out L1 L2 hL1.symm hL2.symm
                  rw [hL1, hL2]
                  refine wpAnyH_ready (rs := [6]) (by kernel_rfl) (by decide) (AllReadyH.cons (o := { dst := none, op := Op.store 38 (Operand.tmp 9) (Operand.tmp 59), type := 0, pos := "law.go:151", after := #[{ on := 4, ground := Ground.data }, { on := 1, ground := Ground.data }, { on := 3, ground := Ground.chain }, { on := 0, ground := Ground.phase }, { on := 1, ground := Ground.phase }, { on := 2, ground := Ground.textOnly Departure.lateStores }, { on := 3, ground := Ground.textOnly Departure.lateStoresUnsure }, { on := 4, ground := Ground.phase }, { on := 5, ground := Ground.phase }], guard := none }) rfl (fun K hK => ?_) AllReadyH.nil)
                  rw [if_pos (by rfl)]
                  refine wp_store_mid 38 _ _ rfl _ 0 L1.toArray rfl rfl f1 f3 f5 ?_
                  refine hK.out _ _ (f7) (fun g8 => ?_)
                  clear hK K
                  simp only [Act.put]
                  refine wpAnyH_ready (rs := [7]) (by kernel_rfl) (by decide) (AllReadyH.cons (o := { dst := none, op := Op.store 38 (Operand.tmp 10) (Operand.tmp 61), type := 0, pos := "law.go:151", after := #[{ on := 5, ground := Ground.data }, { on := 3, ground := Ground.data }, { on := 6, ground := Ground.chain }, { on := 0, ground := Ground.phase }, { on := 1, ground := Ground.phase }, { on := 2, ground := Ground.phase }, { on := 3, ground := Ground.phase }, { on := 4, ground := Ground.phase }, { on := 5, ground := Ground.phase }, { on := 6, ground := Ground.phase }], guard := none }) rfl (fun K hK => ?_) AllReadyH.nil)
                  rw [if_pos (by rfl)]
                  refine wp_store_mid 38 _ _ rfl _ 0 L2.toArray rfl rfl f2 f4 f6 ?_
                  refine hK.out _ _ (HF.out.row) (fun g9 => ?_)
                  clear hK K
                  simp only [Act.put]
                  refine wpAnyH_done (by kernel_rfl) ?_ _
                  exact HQ.out bb7 bb9 mm1 mm8 _ _ _ _ _ HF
          · as_aux_lemma =>
              rw [if_pos (by rfl)]
              go_simp
              have HN10 : Hid _ := HN7.out.alloc10 Z sZ
              refine hK.out _ _ HN10.out.row (fun gg10 => ?_)
              clear hK K
              obtain ⟨wn10, hwn10⟩ : ∃ wq, wn7.alloc (.cells Z 38) = wq := ⟨_, rfl⟩
              obtain ⟨bb10, hbb10⟩ : ∃ bq, wn7.heap.size = bq := ⟨_, rfl⟩
              rw [hwn10] at HN10 gg10
              rw [hwn10]
              rw [hbb10] at HN10
              try rw [hbb10]
              clear hwn10 hbb10 gg7
              refine wpAnyH_ready (rs := [3]) (by kernel_rfl) (by decide) (AllReadyH.cons (o := { dst := some 61, op := Op.call { callee := Callee.value (Operand.func 7), args := #[Operand.tmp 60], argTypes := #[38] }, type := 38, pos := "law.go:151", after := #[{ on := 2, ground := Ground.data }, { on := 1, ground := Ground.chain }], guard := none }) rfl (fun K hK => ?_) AllReadyH.nil)
              · as_aux_lemma =>
                  rw [if_pos (by rfl)]
                  go_simp
                  rw [← hM]
                  refine (copy_any HN10.out.base _ _).mono ?_
                  rintro _ wn11 ⟨mm11, rfl, hk, hT, hb⟩
                  have HN11 : Hid _ := HN10.out.copy2 hk hT hb
                  clear hk hT hb
                  rw [hM]
                  refine hK.out _ _ HN11.out.row (fun gg11 => ?_)
                  clear hK K gg10
                  obtain ⟨L1, hL1⟩ : ∃ L1, pagesL mm1 (fun _ => 0) (fun _ => 0) = L1 := ⟨_, rfl⟩
                  obtain ⟨L2, hL2⟩ : ∃ L2, pagesL mm11 (fun _ => 0) (fun _ => 0) = L2 := ⟨_, rfl⟩
                  have HF : Hid (Nin2 w3 w2.heap.size (w2.heap.size + 1) M bb7 bb10 mm1 mm11 ((wn11.setCells bb7 0 L1).setCells bb10 0 L2)) := HN11.out.stored L1 L2 hL1.symm hL2.symm
                  obtain ⟨f1, f2, f3, f4, f5, f6, f7⟩ := nine_facts HN11.out L1 L2 hL1.symm hL2.symm
                  rw [hL1, hL2]
                  refine wpAnyH_ready (rs := [6]) (by kernel_rfl) (by decide) (AllReadyH.cons (o := { dst := none, op := Op.store 38 (Operand.tmp 9) (Operand.tmp 59), type := 0, pos := "law.go:151", after := #[{ on := 4, ground := Ground.data }, { on := 1, ground := Ground.data }, { on := 3, ground := Ground.chain }, { on := 0, ground := Ground.phase }, { on := 1, ground := Ground.phase }, { on := 2, ground := Ground.textOnly Departure.lateStores }, { on := 3, ground := Ground.textOnly Departure.lateStoresUnsure }, { on := 4, ground := Ground.phase }, { on := 5, ground := Ground.phase }], guard := none }) rfl (fun K hK => ?_) AllReadyH.nil)
                  rw [if_pos (by rfl)]
                  refine wp_store_mid 38 _ _ rfl _ 0 L1.toArray rfl rfl f1 f3 f5 ?_
                  refine hK.out _ _ (f7) (fun g8 => ?_)
                  clear hK K
                  simp only [Act.put]
                  refine wpAnyH_ready (rs := [7]) (by kernel_rfl) (by decide) (AllReadyH.cons (o := { dst := none, op := Op.store 38 (Operand.tmp 10) (Operand.tmp 61), type := 0, pos := "law.go:151", after := #[{ on := 5, ground := Ground.data }, { on := 3, ground := Ground.data }, { on := 6, ground := Ground.chain }, { on := 0, ground := Ground.phase }, { on := 1, ground := Ground.phase }, { on := 2, ground := Ground.phase }, { on := 3, ground := Ground.phase }, { on := 4, ground := Ground.phase }, { on := 5, ground := Ground.phase }, { on := 6, ground := Ground.phase }], guard := none }) rfl (fun K hK => ?_) AllReadyH.nil)
                  rw [if_pos (by rfl)]
                  refine wp_store_mid 38 _ _ rfl _ 0 L2.toArray rfl rfl f2 f4 f6 ?_
                  refine hK.out _ _ (HF.out.row) (fun g9 => ?_)
                  clear hK K
                  simp only [Act.put]
                  refine wpAnyH_done (by kernel_rfl) ?_ _
                  exact HQ.out bb7 bb10 mm1 mm11 _ _ _ _ _ HF
      · as_aux_lemma =>
          rw [if_pos (by rfl)]
          go_simp
          have HN12 : Hid _ := HN1.out.alloc10 Z sZ
          refine hK.out _ _ HN12.out.row (fun gg12 => ?_)
          clear hK K
          obtain ⟨wn12, hwn12⟩ : ∃ wq, wn1.alloc (.cells Z 38) = wq := ⟨_, rfl⟩
          obtain ⟨bb12, hbb12⟩ : ∃ bq, wn1.heap.size = bq := ⟨_, rfl⟩
          rw [hwn12] at HN12 gg12
          rw [hwn12]
          rw [hbb12] at HN12
          try rw [hbb12]
          clear hwn12 hbb12 gg1
          refine wpAnyH_ready (rs := [3, 4]) (by kernel_rfl) (by decide) (AllReadyH.cons (o := { dst := some 61, op := Op.call { callee := Callee.value (Operand.func 7), args := #[Operand.tmp 60], argTypes := #[38] }, type := 38, pos := "law.go:151", after := #[{ on := 2, ground := Ground.data }, { on := 1, ground := Ground.chain }], guard := none }) rfl (fun K hK => ?_) (AllReadyH.cons (o := { dst := some 9, op := Op.alloc 38, type := 0, pos := "law.go:151", after := #[], guard := none }) rfl (fun K hK => ?_) AllReadyH.nil))
          · as_aux_lemma =>
              rw [if_pos (by rfl)]
              go_simp
              rw [← hM]
              refine (copy_any HN12.out.base _ _).mono ?_
              rintro _ wn13 ⟨mm13, rfl, hk, hT, hb⟩
              have HN13 : Hid _ := HN12.out.copy2 hk hT hb
              clear hk hT hb
              rw [hM]
              refine hK.out _ _ HN13.out.row (fun gg13 => ?_)
              clear hK K gg12
              refine wpAnyH_ready (rs := [4]) (by kernel_rfl) (by decide) (AllReadyH.cons (o := { dst := some 9, op := Op.alloc 38, type := 0, pos := "law.go:151", after := #[], guard := none }) rfl (fun K hK => ?_) AllReadyH.nil)
              · as_aux_lemma =>
                  rw [if_pos (by rfl)]
                  go_simp
                  have HN14 : Hid _ := HN13.out.alloc9 Z sZ
                  refine hK.out _ _ HN14.out.row (fun gg14 => ?_)
                  clear hK K
                  obtain ⟨wn14, hwn14⟩ : ∃ wq, wn13.alloc (.cells Z 38) = wq := ⟨_, rfl⟩
                  obtain ⟨bb14, hbb14⟩ : ∃ bq, wn13.heap.size = bq := ⟨_, rfl⟩
                  rw [hwn14] at HN14 gg14
                  rw [hwn14]
                  rw [hbb14] at HN14
                  try rw [hbb14]
                  clear hwn14 hbb14 gg13
                  obtain ⟨L1, hL1⟩ : ∃ L1, pagesL mm1 (fun _ => 0) (fun _ => 0) = L1 := ⟨_, rfl⟩
                  obtain ⟨L2, hL2⟩ : ∃ L2, pagesL mm13 (fun _ => 0) (fun _ => 0) = L2 := ⟨_, rfl⟩
                  have HF : Hid (Nin2 w3 w2.heap.size (w2.heap.size + 1) M bb14 bb12 mm1 mm13 ((wn14.setCells bb14 0 L1).setCells bb12 0 L2)) := HN14.out.stored L1 L2 hL1.symm hL2.symm
                  obtain ⟨f1, f2, f3, f4, f5, f6, f7⟩ := nine_facts HN14.out L1 L2 hL1.symm hL2.symm
                  rw [hL1, hL2]
                  refine wpAnyH_ready (rs := [6]) (by kernel_rfl) (by decide) (AllReadyH.cons (o := { dst := none, op := Op.store 38 (Operand.tmp 9) (Operand.tmp 59), type := 0, pos := "law.go:151", after := #[{ on := 4, ground := Ground.data }, { on := 1, ground := Ground.data }, { on := 3, ground := Ground.chain }, { on := 0, ground := Ground.phase }, { on := 1, ground := Ground.phase }, { on := 2, ground := Ground.textOnly Departure.lateStores }, { on := 3, ground := Ground.textOnly Departure.lateStoresUnsure }, { on := 4, ground := Ground.phase }, { on := 5, ground := Ground.phase }], guard := none }) rfl (fun K hK => ?_) AllReadyH.nil)
                  rw [if_pos (by rfl)]
                  refine wp_store_mid 38 _ _ rfl _ 0 L1.toArray rfl rfl f1 f3 f5 ?_
                  refine hK.out _ _ (f7) (fun g8 => ?_)
                  clear hK K
                  simp only [Act.put]
                  refine wpAnyH_ready (rs := [7]) (by kernel_rfl) (by decide) (AllReadyH.cons (o := { dst := none, op := Op.store 38 (Operand.tmp 10) (Operand.tmp 61), type := 0, pos := "law.go:151", after := #[{ on := 5, ground := Ground.data }, { on := 3, ground := Ground.data }, { on := 6, ground := Ground.chain }, { on := 0, ground := Ground.phase }, { on := 1, ground := Ground.phase }, { on := 2, ground := Ground.phase }, { on := 3, ground := Ground.phase }, { on := 4, ground := Ground.phase }, { on := 5, ground := Ground.phase }, { on := 6, ground := Ground.phase }], guard := none }) rfl (fun K hK => ?_) AllReadyH.nil)
                  rw [if_pos (by rfl)]
                  refine wp_store_mid 38 _ _ rfl _ 0 L2.toArray rfl rfl f2 f4 f6 ?_
                  refine hK.out _ _ (HF.out.row) (fun g9 => ?_)
                  clear hK K
                  simp only [Act.put]
                  refine wpAnyH_done (by kernel_rfl) ?_ _
                  exact HQ.out bb14 bb12 mm1 mm13 _ _ _ _ _ HF
          · as_aux_lemma =>
              rw [if_pos (by rfl)]
              go_simp
              have HN15 : Hid _ := HN12.out.alloc9 Z sZ
              refine hK.out _ _ HN15.out.row (fun gg15 => ?_)
              clear hK K
              obtain ⟨wn15, hwn15⟩ : ∃ wq, wn12.alloc (.cells Z 38) = wq := ⟨_, rfl⟩
              obtain ⟨bb15, hbb15⟩ : ∃ bq, wn12.heap.size = bq := ⟨_, rfl⟩
              rw [hwn15] at HN15 gg15
              rw [hwn15]
              rw [hbb15] at HN15
              try rw [hbb15]
              clear hwn15 hbb15 gg12
              refine wpAnyH_ready (rs := [3]) (by kernel_rfl) (by decide) (AllReadyH.cons (o := { dst := some 61, op := Op.call { callee := Callee.value (Operand.func 7), args := #[Operand.tmp 60], argTypes := #[38] }, type := 38, pos := "law.go:151", after := #[{ on := 2, ground := Ground.data }, { on := 1, ground := Ground.chain }], guard := none }) rfl (fun K hK => ?_) AllReadyH.nil)
              · as_aux_lemma =>
                  rw [if_pos (by rfl)]
                  go_simp
                  rw [← hM]
                  refine (copy_any HN15.out.base _ _).mono ?_
                  rintro _ wn16 ⟨mm16, rfl, hk, hT, hb⟩
                  have HN16 : Hid _ := HN15.out.copy2 hk hT hb
                  clear hk hT hb
                  rw [hM]
                  refine hK.out _ _ HN16.out.row (fun gg16 => ?_)
                  clear hK K gg15
                  obtain ⟨L1, hL1⟩ : ∃ L1, pagesL mm1 (fun _ => 0) (fun _ => 0) = L1 := ⟨_, rfl⟩
                  obtain ⟨L2, hL2⟩ : ∃ L2, pagesL mm16 (fun _ => 0) (fun _ => 0) = L2 := ⟨_, rfl⟩
                  have HF : Hid (Nin2 w3 w2.heap.size (w2.heap.size + 1) M bb15 bb12 mm1 mm16 ((wn16.setCells bb15 0 L1).setCells bb12 0 L2)) := HN16.out.stored L1 L2 hL1.symm hL2.symm
                  obtain ⟨f1, f2, f3, f4, f5, f6, f7⟩ := nine_facts HN16.out L1 L2 hL1.symm hL2.symm
                  rw [hL1, hL2]
                  refine wpAnyH_ready (rs := [6]) (by kernel_rfl) (by decide) (AllReadyH.cons (o := { dst := none, op := Op.store 38 (Operand.tmp 9) (Operand.tmp 59), type := 0, pos := "law.go:151", after := #[{ on := 4, ground := Ground.data }, { on := 1, ground := Ground.data }, { on := 3, ground := Ground.chain }, { on := 0, ground := Ground.phase }, { on := 1, ground := Ground.phase }, { on := 2, ground := Ground.textOnly Departure.lateStores }, { on := 3, ground := Ground.textOnly Departure.lateStoresUnsure }, { on := 4, ground := Ground.phase }, { on := 5, ground := Ground.phase }], guard := none }) rfl (fun K hK => ?_) AllReadyH.nil)
                  rw [if_pos (by rfl)]
                  refine wp_store_mid 38 _ _ rfl _ 0 L1.toArray rfl rfl f1 f3 f5 ?_
                  refine hK.out _ _ (f7) (fun g8 => ?_)
                  clear hK K
                  simp only [Act.put]
                  refine wpAnyH_ready (rs := [7]) (by kernel_rfl) (by decide) (AllReadyH.cons (o := { dst := none, op := Op.store 38 (Operand.tmp 10) (Operand.tmp 61), type := 0, pos := "law.go:151", after := #[{ on := 5, ground := Ground.data }, { on := 3, ground := Ground.data }, { on := 6, ground := Ground.chain }, { on := 0, ground := Ground.phase }, { on := 1, ground := Ground.phase }, { on := 2, ground := Ground.phase }, { on := 3, ground := Ground.phase }, { on := 4, ground := Ground.phase }, { on := 5, ground := Ground.phase }, { on := 6, ground := Ground.phase }], guard := none }) rfl (fun K hK => ?_) AllReadyH.nil)
                  rw [if_pos (by rfl)]
                  refine wp_store_mid 38 _ _ rfl _ 0 L2.toArray rfl rfl f2 f4 f6 ?_
                  refine hK.out _ _ (HF.out.row) (fun g9 => ?_)
                  clear hK K
                  simp only [Act.put]
                  refine wpAnyH_done (by kernel_rfl) ?_ _
                  exact HQ.out bb15 bb12 mm1 mm16 _ _ _ _ _ HF
  · as_aux_lemma =>
      rw [if_pos (by rfl)]
      go_simp
      have HN17 : Hid _ := HN0.out.alloc9 Z sZ
      refine hK.out _ _ HN17.out.row (fun gg17 => ?_)
      clear hK K
      obtain ⟨wn17, hwn17⟩ : ∃ wq, wd.alloc (.cells Z 38) = wq := ⟨_, rfl⟩
      obtain ⟨bb17, hbb17⟩ : ∃ bq, wd.heap.size = bq := ⟨_, rfl⟩
      rw [hwn17] at HN17 gg17
      rw [hwn17]
      rw [hbb17] at HN17
      try rw [hbb17]
      clear hwn17 hbb17 g0
      refine wpAnyH_ready (rs := [1, 5]) (by kernel_rfl) (by decide) (AllReadyH.cons (o := { dst := some 59, op := Op.call { callee := Callee.value (Operand.func 7), args := #[Operand.tmp 58], argTypes := #[38] }, type := 38, pos := "law.go:151", after := #[{ on := 0, ground := Ground.data }], guard := none }) rfl (fun K hK => ?_) (AllReadyH.cons (o := { dst := some 10, op := Op.alloc 38, type := 0, pos := "law.go:151", after := #[], guard := none }) rfl (fun K hK => ?_) AllReadyH.nil))
      · as_aux_lemma =>
          rw [if_pos (by rfl)]
          go_simp
          rw [← hM]
          refine (copy_any HN17.out.base _ _).mono ?_
          rintro _ wn18 ⟨mm18, rfl, hk, hT, hb⟩
          have HN18 : Hid _ := HN17.out.copy1 hk hT hb
          clear hk hT hb
          rw [hM]
          refine hK.out _ _ HN18.out.row (fun gg18 => ?_)
          clear hK K gg17
          refine wpAnyH_ready (rs := [3, 5]) (by kernel_rfl) (by decide) (AllReadyH.cons (o := { dst := some 61, op := Op.call { callee := Callee.value (Operand.func 7), args := #[Operand.tmp 60], argTypes := #[38] }, type := 38, pos := "law.go:151", after := #[{ on := 2, ground := Ground.data }, { on := 1, ground := Ground.chain }], guard := none }) rfl (fun K hK => ?_) (AllReadyH.cons (o := { dst := some 10, op := Op.alloc 38, type := 0, pos := "law.go:151", after := #[], guard := none }) rfl (fun K hK => ?_) AllReadyH.nil))
          · as_aux_lemma =>
              rw [if_pos (by rfl)]
              go_simp
              rw [← hM]
              refine (copy_any HN18.out.base _ _).mono ?_
              rintro _ wn19 ⟨mm19, rfl, hk, hT, hb⟩
              have HN19 : Hid _ := HN18.out.copy2 hk hT hb
              clear hk hT hb
              rw [hM]
              refine hK.out _ _ HN19.out.row (fun gg19 => ?_)
              clear hK K gg18
              refine wpAnyH_ready (rs := [5]) (by kernel_rfl) (by decide) (AllReadyH.cons (o := { dst := some 10, op := Op.alloc 38, type := 0, pos := "law.go:151", after := #[], guard := none }) rfl (fun K hK => ?_) AllReadyH.nil)
              · as_aux_lemma =>
                  rw [if_pos (by rfl)]
                  go_simp
                  have HN20 : Hid _ := HN19.out.alloc10 Z sZ
                  refine hK.out _ _ HN20.out.row (fun gg20 => ?_)
                  clear hK K
                  obtain ⟨wn20, hwn20⟩ : ∃ wq, wn19.alloc (.cells Z 38) = wq := ⟨_, rfl⟩
                  obtain ⟨bb20, hbb20⟩ : ∃ bq, wn19.heap.size = bq := ⟨_, rfl⟩
                  rw [hwn20] at HN20 gg20
                  rw [hwn20]
                  rw [hbb20] at HN20
                  try rw [hbb20]
                  clear hwn20 hbb20 gg19
                  obtain ⟨L1, hL1⟩ : ∃ L1, pagesL mm18 (fun _ => 0) (fun _ => 0) = L1 := ⟨_, rfl⟩
                  obtain ⟨L2, hL2⟩ : ∃ L2, pagesL mm19 (fun _ => 0) (fun _ => 0) = L2 := ⟨_, rfl⟩
                  have HF : Hid (Nin2 w3 w2.heap.size (w2.heap.size + 1) M bb17 bb20 mm18 mm19 ((wn20.setCells bb17 0 L1).setCells bb20 0 L2)) := HN20.out.stored L1 L2 hL1.symm hL2.symm
                  obtain ⟨f1, f2, f3, f4, f5, f6, f7⟩ := nine_facts HN20.out L1 L2 hL1.symm hL2.symm
                  rw [hL1, hL2]
                  refine wpAnyH_ready (rs := [6]) (by kernel_rfl) (by decide) (AllReadyH.cons (o := { dst := none, op := Op.store 38 (Operand.tmp 9) (Operand.tmp 59), type := 0, pos := "law.go:151", after := #[{ on := 4, ground := Ground.data }, { on := 1, ground := Ground.data }, { on := 3, ground := Ground.chain }, { on := 0, ground := Ground.phase }, { on := 1, ground := Ground.phase }, { on := 2, ground := Ground.textOnly Departure.lateStores }, { on := 3, ground := Ground.textOnly Departure.lateStoresUnsure }, { on := 4, ground := Ground.phase }, { on := 5, ground := Ground.phase }], guard := none }) rfl (fun K hK => ?_) AllReadyH.nil)
                  rw [if_pos (by rfl)]
                  refine wp_store_mid 38 _ _ rfl _ 0 L1.toArray rfl rfl f1 f3 f5 ?_
                  refine hK.out _ _ (f7) (fun g8 => ?_)
                  clear hK K
                  simp only [Act.put]
                  refine wpAnyH_ready (rs := [7]) (by kernel_rfl) (by decide) (AllReadyH.cons (o := { dst := none, op := Op.store 38 (Operand.tmp 10) (Operand.tmp 61), type := 0, pos := "law.go:151", after := #[{ on := 5, ground := Ground.data }, { on := 3, ground := Ground.data }, { on := 6, ground := Ground.chain }, { on := 0, ground := Ground.phase }, { on := 1, ground := Ground.phase }, { on := 2, ground := Ground.phase }, { on := 3, ground := Ground.phase }, { on := 4, ground := Ground.phase }, { on := 5, ground := Ground.phase }, { on := 6, ground := Ground.phase }], guard := none }) rfl (fun K hK => ?_) AllReadyH.nil)
                  rw [if_pos (by rfl)]
                  refine wp_store_mid 38 _ _ rfl _ 0 L2.toArray rfl rfl f2 f4 f6 ?_
                  refine hK.out _ _ (HF.out.row) (fun g9 => ?_)
                  clear hK K
                  simp only [Act.put]
                  refine wpAnyH_done (by kernel_rfl) ?_ _
                  exact HQ.out bb17 bb20 mm18 mm19 _ _ _ _ _ HF
          · as_aux_lemma =>
              rw [if_pos (by rfl)]
              go_simp
              have HN21 : Hid _ := HN18.out.alloc10 Z sZ
              refine hK.out _ _ HN21.out.row (fun gg21 => ?_)
              clear hK K
              obtain ⟨wn21, hwn21⟩ : ∃ wq, wn18.alloc (.cells Z 38) = wq := ⟨_, rfl⟩
              obtain ⟨bb21, hbb21⟩ : ∃ bq, wn18.heap.size = bq := ⟨_, rfl⟩
              rw [hwn21] at HN21 gg21
              rw [hwn21]
              rw [hbb21] at HN21
              try rw [hbb21]
              clear hwn21 hbb21 gg18
              refine wpAnyH_ready (rs := [3]) (by kernel_rfl) (by decide) (AllReadyH.cons (o := { dst := some 61, op := Op.call { callee := Callee.value (Operand.func 7), args := #[Operand.tmp 60], argTypes := #[38] }, type := 38, pos := "law.go:151", after := #[{ on := 2, ground := Ground.data }, { on := 1, ground := Ground.chain }], guard := none }) rfl (fun K hK => ?_) AllReadyH.nil)
              · as_aux_lemma =>
                  rw [if_pos (by rfl)]
                  go_simp
                  rw [← hM]
                  refine (copy_any HN21.out.base _ _).mono ?_
                  rintro _ wn22 ⟨mm22, rfl, hk, hT, hb⟩
                  have HN22 : Hid _ := HN21.out.copy2 hk hT hb
                  clear hk hT hb
                  rw [hM]
                  refine hK.out _ _ HN22.out.row (fun gg22 => ?_)
                  clear hK K gg21
                  obtain ⟨L1, hL1⟩ : ∃ L1, pagesL mm18 (fun _ => 0) (fun _ => 0) = L1 := ⟨_, rfl⟩
                  obtain ⟨L2, hL2⟩ : ∃ L2, pagesL mm22 (fun _ => 0) (fun _ => 0) = L2 := ⟨_, rfl⟩
                  have HF : Hid (Nin2 w3 w2.heap.size (w2.heap.size + 1) M bb17 bb21 mm18 mm22 ((wn22.setCells bb17 0 L1).setCells bb21 0 L2)) := HN22.out.stored L1 L2 hL1.symm hL2.symm
                  obtain ⟨f1, f2, f3, f4, f5, f6, f7⟩ := nine_facts HN22.out L1 L2 hL1.symm hL2.symm
                  rw [hL1, hL2]
                  refine wpAnyH_ready (rs := [6]) (by kernel_rfl) (by decide) (AllReadyH.cons (o := { dst := none, op := Op.store 38 (Operand.tmp 9) (Operand.tmp 59), type := 0, pos := "law.go:151", after := #[{ on := 4, ground := Ground.data }, { on := 1, ground := Ground.data }, { on := 3, ground := Ground.chain }, { on := 0, ground := Ground.phase }, { on := 1, ground := Ground.phase }, { on := 2, ground := Ground.textOnly Departure.lateStores }, { on := 3, ground := Ground.textOnly Departure.lateStoresUnsure }, { on := 4, ground := Ground.phase }, { on := 5, ground := Ground.phase }], guard := none }) rfl (fun K hK => ?_) AllReadyH.nil)
                  rw [if_pos (by rfl)]
                  refine wp_store_mid 38 _ _ rfl _ 0 L1.toArray rfl rfl f1 f3 f5 ?_
                  refine hK.out _ _ (f7) (fun g8 => ?_)
                  clear hK K
                  simp only [Act.put]
                  refine wpAnyH_ready (rs := [7]) (by kernel_rfl) (by decide) (AllReadyH.cons (o := { dst := none, op := Op.store 38 (Operand.tmp 10) (Operand.tmp 61), type := 0, pos := "law.go:151", after := #[{ on := 5, ground := Ground.data }, { on := 3, ground := Ground.data }, { on := 6, ground := Ground.chain }, { on := 0, ground := Ground.phase }, { on := 1, ground := Ground.phase }, { on := 2, ground := Ground.phase }, { on := 3, ground := Ground.phase }, { on := 4, ground := Ground.phase }, { on := 5, ground := Ground.phase }, { on := 6, ground := Ground.phase }], guard := none }) rfl (fun K hK => ?_) AllReadyH.nil)
                  rw [if_pos (by rfl)]
                  refine wp_store_mid 38 _ _ rfl _ 0 L2.toArray rfl rfl f2 f4 f6 ?_
                  refine hK.out _ _ (HF.out.row) (fun g9 => ?_)
                  clear hK K
                  simp only [Act.put]
                  refine wpAnyH_done (by kernel_rfl) ?_ _
                  exact HQ.out bb17 bb21 mm18 mm22 _ _ _ _ _ HF
      · as_aux_lemma =>
          rw [if_pos (by rfl)]
          go_simp
          have HN23 : Hid _ := HN17.out.alloc10 Z sZ
          refine hK.out _ _ HN23.out.row (fun gg23 => ?_)
          clear hK K
          obtain ⟨wn23, hwn23⟩ : ∃ wq, wn17.alloc (.cells Z 38) = wq := ⟨_, rfl⟩
          obtain ⟨bb23, hbb23⟩ : ∃ bq, wn17.heap.size = bq := ⟨_, rfl⟩
          rw [hwn23] at HN23 gg23
          rw [hwn23]
          rw [hbb23] at HN23
          try rw [hbb23]
          clear hwn23 hbb23 gg17
          refine wpAnyH_ready (rs := [1]) (by kernel_rfl) (by decide) (AllReadyH.cons (o := { dst := some 59, op := Op.call { callee := Callee.value (Operand.func 7), args := #[Operand.tmp 58], argTypes := #[38] }, type := 38, pos := "law.go:151", after := #[{ on := 0, ground := Ground.data }], guard := none }) rfl (fun K hK => ?_) AllReadyH.nil)
          · as_aux_lemma =>
              rw [if_pos (by rfl)]
              go_simp
              rw [← hM]
              refine (copy_any HN23.out.base _ _).mono ?_
              rintro _ wn24 ⟨mm24, rfl, hk, hT, hb⟩
              have HN24 : Hid _ := HN23.out.copy1 hk hT hb
              clear hk hT hb
              rw [hM]
              refine hK.out _ _ HN24.out.row (fun gg24 => ?_)
              clear hK K gg23
              refine wpAnyH_ready (rs := [3]) (by kernel_rfl) (by decide) (AllReadyH.cons (o := { dst := some 61, op := Op.call { callee := Callee.value (Operand.func 7), args := #[Operand.tmp 60], argTypes := #[38] }, type := 38, pos := "law.go:151", after := #[{ on := 2, ground := Ground.data }, { on := 1, ground := Ground.chain }], guard := none }) rfl (fun K hK => ?_) AllReadyH.nil)
              · as_aux_lemma =>
                  rw [if_pos (by rfl)]
                  go_simp
                  rw [← hM]
                  refine (copy_any HN24.out.base _ _).mono ?_
                  rintro _ wn25 ⟨mm25, rfl, hk, hT, hb⟩
                  have HN25 : Hid _ := HN24.out.copy2 hk hT hb
                  clear hk hT hb
                  rw [hM]
                  refine hK.out _ _ HN25.out.row (fun gg25 => ?_)
                  clear hK K gg24
                  obtain ⟨L1, hL1⟩ : ∃ L1, pagesL mm24 (fun _ => 0) (fun _ => 0) = L1 := ⟨_, rfl⟩
                  obtain ⟨L2, hL2⟩ : ∃ L2, pagesL mm25 (fun _ => 0) (fun _ => 0) = L2 := ⟨_, rfl⟩
                  have HF : Hid (Nin2 w3 w2.heap.size (w2.heap.size + 1) M bb17 bb23 mm24 mm25 ((wn25.setCells bb17 0 L1).setCells bb23 0 L2)) := HN25.out.stored L1 L2 hL1.symm hL2.symm
                  obtain ⟨f1, f2, f3, f4, f5, f6, f7⟩ := nine_facts HN25.out L1 L2 hL1.symm hL2.symm
                  rw [hL1, hL2]
                  refine wpAnyH_ready (rs := [6]) (by kernel_rfl) (by decide) (AllReadyH.cons (o := { dst := none, op := Op.store 38 (Operand.tmp 9) (Operand.tmp 59), type := 0, pos := "law.go:151", after := #[{ on := 4, ground := Ground.data }, { on := 1, ground := Ground.data }, { on := 3, ground := Ground.chain }, { on := 0, ground := Ground.phase }, { on := 1, ground := Ground.phase }, { on := 2, ground := Ground.textOnly Departure.lateStores }, { on := 3, ground := Ground.textOnly Departure.lateStoresUnsure }, { on := 4, ground := Ground.phase }, { on := 5, ground := Ground.phase }], guard := none }) rfl (fun K hK => ?_) AllReadyH.nil)
                  rw [if_pos (by rfl)]
                  refine wp_store_mid 38 _ _ rfl _ 0 L1.toArray rfl rfl f1 f3 f5 ?_
                  refine hK.out _ _ (f7) (fun g8 => ?_)
                  clear hK K
                  simp only [Act.put]
                  refine wpAnyH_ready (rs := [7]) (by kernel_rfl) (by decide) (AllReadyH.cons (o := { dst := none, op := Op.store 38 (Operand.tmp 10) (Operand.tmp 61), type := 0, pos := "law.go:151", after := #[{ on := 5, ground := Ground.data }, { on := 3, ground := Ground.data }, { on := 6, ground := Ground.chain }, { on := 0, ground := Ground.phase }, { on := 1, ground := Ground.phase }, { on := 2, ground := Ground.phase }, { on := 3, ground := Ground.phase }, { on := 4, ground := Ground.phase }, { on := 5, ground := Ground.phase }, { on := 6, ground := Ground.phase }], guard := none }) rfl (fun K hK => ?_) AllReadyH.nil)
                  rw [if_pos (by rfl)]
                  refine wp_store_mid 38 _ _ rfl _ 0 L2.toArray rfl rfl f2 f4 f6 ?_
                  refine hK.out _ _ (HF.out.row) (fun g9 => ?_)
                  clear hK K
                  simp only [Act.put]
                  refine wpAnyH_done (by kernel_rfl) ?_ _
                  exact HQ.out bb17 bb23 mm24 mm25 _ _ _ _ _ HF
  · as_aux_lemma =>
      rw [if_pos (by rfl)]
      go_simp
      have HN26 : Hid _ := HN0.out.alloc10 Z sZ
      refine hK.out _ _ HN26.out.row (fun gg26 => ?_)
      clear hK K
      obtain ⟨wn26, hwn26⟩ : ∃ wq, wd.alloc (.cells Z 38) = wq := ⟨_, rfl⟩
      obtain ⟨bb26, hbb26⟩ : ∃ bq, wd.heap.size = bq := ⟨_, rfl⟩
      rw [hwn26] at HN26 gg26
      rw [hwn26]
      rw [hbb26] at HN26
      try rw [hbb26]
      clear hwn26 hbb26 g0
      refine wpAnyH_ready (rs := [1, 4]) (by kernel_rfl) (by decide) (AllReadyH.cons (o := { dst := some 59, op := Op.call { callee := Callee.value (Operand.func 7), args := #[Operand.tmp 58], argTypes := #[38] }, type := 38, pos := "law.go:151", after := #[{ on := 0, ground := Ground.data }], guard := none }) rfl (fun K hK => ?_) (AllReadyH.cons (o := { dst := some 9, op := Op.alloc 38, type := 0, pos := "law.go:151", after := #[], guard := none }) rfl (fun K hK => ?_) AllReadyH.nil))
      · as_aux_lemma =>
          rw [if_pos (by rfl)]
          go_simp
          rw [← hM]
          refine (copy_any HN26.out.base _ _).mono ?_
          rintro _ wn27 ⟨mm27, rfl, hk, hT, hb⟩
          have HN27 : Hid _ := HN26.out.copy1 hk hT hb
          clear hk hT hb
          rw [hM]
          refine hK.out _ _ HN27.out.row (fun gg27 => ?_)
          clear hK K gg26
          refine wpAnyH_ready (rs := [3, 4]) (by kernel_rfl) (by decide) (AllReadyH.cons (o := { dst := some 61, op := Op.call { callee := Callee.value (Operand.func 7), args := #[Operand.tmp 60], argTypes := #[38] }, type := 38, pos := "law.go:151", after := #[{ on := 2, ground := Ground.data }, { on := 1, ground := Ground.chain }], guard := none }) rfl (fun K hK => ?_) (AllReadyH.cons (o := { dst := some 9, op := Op.alloc 38, type := 0, pos := "law.go:151", after := #[], guard := none }) rfl (fun K hK => ?_) AllReadyH.nil))
          · as_aux_lemma =>
              rw [if_pos (by rfl)]
              go_simp
              rw [← hM]
              refine (copy_any HN27.out.base _ _).mono ?_
              rintro _ wn28 ⟨mm28, rfl, hk, hT, hb⟩
              have HN28 : Hid _ := HN27.out.copy2 hk hT hb
              clear hk hT hb
              rw [hM]
              refine hK.out _ _ HN28.out.row (fun gg28 => ?_)
              clear hK K gg27
              refine wpAnyH_ready (rs := [4]) (by kernel_rfl) (by decide) (AllReadyH.cons (o := { dst := some 9, op := Op.alloc 38, type := 0, pos := "law.go:151", after := #[], guard := none }) rfl (fun K hK => ?_) AllReadyH.nil)
              · as_aux_lemma =>
                  rw [if_pos (by rfl)]
                  go_simp
                  have HN29 : Hid _ := HN28.out.alloc9 Z sZ
                  refine hK.out _ _ HN29.out.row (fun gg29 => ?_)
                  clear hK K
                  obtain ⟨wn29, hwn29⟩ : ∃ wq, wn28.alloc (.cells Z 38) = wq := ⟨_, rfl⟩
                  obtain ⟨bb29, hbb29⟩ : ∃ bq, wn28.heap.size = bq := ⟨_, rfl⟩
                  rw [hwn29] at HN29 gg29
                  rw [hwn29]
                  rw [hbb29] at HN29
                  try rw [hbb29]
                  clear hwn29 hbb29 gg28
                  obtain ⟨L1, hL1⟩ : ∃ L1, pagesL mm27 (fun _ => 0) (fun _ => 0) = L1 := ⟨_, rfl⟩
                  obtain ⟨L2, hL2⟩ : ∃ L2, pagesL mm28 (fun _ => 0) (fun _ => 0) = L2 := ⟨_, rfl⟩
                  have HF : Hid (Nin2 w3 w2.heap.size (w2.heap.size + 1) M bb29 bb26 mm27 mm28 ((wn29.setCells bb29 0 L1).setCells bb26 0 L2)) := HN29.out.stored L1 L2 hL1.symm hL2.symm
                  obtain ⟨f1, f2, f3, f4, f5, f6, f7⟩ := nine_facts HN29.out L1 L2 hL1.symm hL2.symm
                  rw [hL1, hL2]
                  refine wpAnyH_ready (rs := [6]) (by kernel_rfl) (by decide) (AllReadyH.cons (o := { dst := none, op := Op.store 38 (Operand.tmp 9) (Operand.tmp 59), type := 0, pos := "law.go:151", after := #[{ on := 4, ground := Ground.data }, { on := 1, ground := Ground.data }, { on := 3, ground := Ground.chain }, { on := 0, ground := Ground.phase }, { on := 1, ground := Ground.phase }, { on := 2, ground := Ground.textOnly Departure.lateStores }, { on := 3, ground := Ground.textOnly Departure.lateStoresUnsure }, { on := 4, ground := Ground.phase }, { on := 5, ground := Ground.phase }], guard := none }) rfl (fun K hK => ?_) AllReadyH.nil)
                  rw [if_pos (by rfl)]
                  refine wp_store_mid 38 _ _ rfl _ 0 L1.toArray rfl rfl f1 f3 f5 ?_
                  refine hK.out _ _ (f7) (fun g8 => ?_)
                  clear hK K
                  simp only [Act.put]
                  refine wpAnyH_ready (rs := [7]) (by kernel_rfl) (by decide) (AllReadyH.cons (o := { dst := none, op := Op.store 38 (Operand.tmp 10) (Operand.tmp 61), type := 0, pos := "law.go:151", after := #[{ on := 5, ground := Ground.data }, { on := 3, ground := Ground.data }, { on := 6, ground := Ground.chain }, { on := 0, ground := Ground.phase }, { on := 1, ground := Ground.phase }, { on := 2, ground := Ground.phase }, { on := 3, ground := Ground.phase }, { on := 4, ground := Ground.phase }, { on := 5, ground := Ground.phase }, { on := 6, ground := Ground.phase }], guard := none }) rfl (fun K hK => ?_) AllReadyH.nil)
                  rw [if_pos (by rfl)]
                  refine wp_store_mid 38 _ _ rfl _ 0 L2.toArray rfl rfl f2 f4 f6 ?_
                  refine hK.out _ _ (HF.out.row) (fun g9 => ?_)
                  clear hK K
                  simp only [Act.put]
                  refine wpAnyH_done (by kernel_rfl) ?_ _
                  exact HQ.out bb29 bb26 mm27 mm28 _ _ _ _ _ HF
          · as_aux_lemma =>
              rw [if_pos (by rfl)]
              go_simp
              have HN30 : Hid _ := HN27.out.alloc9 Z sZ
              refine hK.out _ _ HN30.out.row (fun gg30 => ?_)
              clear hK K
              obtain ⟨wn30, hwn30⟩ : ∃ wq, wn27.alloc (.cells Z 38) = wq := ⟨_, rfl⟩
              obtain ⟨bb30, hbb30⟩ : ∃ bq, wn27.heap.size = bq := ⟨_, rfl⟩
              rw [hwn30] at HN30 gg30
              rw [hwn30]
              rw [hbb30] at HN30
              try rw [hbb30]
              clear hwn30 hbb30 gg27
              refine wpAnyH_ready (rs := [3]) (by kernel_rfl) (by decide) (AllReadyH.cons (o := { dst := some 61, op := Op.call { callee := Callee.value (Operand.func 7), args := #[Operand.tmp 60], argTypes := #[38] }, type := 38, pos := "law.go:151", after := #[{ on := 2, ground := Ground.data }, { on := 1, ground := Ground.chain }], guard := none }) rfl (fun K hK => ?_) AllReadyH.nil)
              · as_aux_lemma =>
                  rw [if_pos (by rfl)]
                  go_simp
                  rw [← hM]
                  refine (copy_any HN30.out.base _ _).mono ?_
                  rintro _ wn31 ⟨mm31, rfl, hk, hT, hb⟩
                  have HN31 : Hid _ := HN30.out.copy2 hk hT hb
                  clear hk hT hb
                  rw [hM]
                  refine hK.out _ _ HN31.out.row (fun gg31 => ?_)
                  clear hK K gg30
                  obtain ⟨L1, hL1⟩ : ∃ L1, pagesL mm27 (fun _ => 0) (fun _ => 0) = L1 := ⟨_, rfl⟩
                  obtain ⟨L2, hL2⟩ : ∃ L2, pagesL mm31 (fun _ => 0) (fun _ => 0) = L2 := ⟨_, rfl⟩
                  have HF : Hid (Nin2 w3 w2.heap.size (w2.heap.size + 1) M bb30 bb26 mm27 mm31 ((wn31.setCells bb30 0 L1).setCells bb26 0 L2)) := HN31.out.stored L1 L2 hL1.symm hL2.symm
                  obtain ⟨f1, f2, f3, f4, f5, f6, f7⟩ := nine_facts HN31.out L1 L2 hL1.symm hL2.symm
                  rw [hL1, hL2]
                  refine wpAnyH_ready (rs := [6]) (by kernel_rfl) (by decide) (AllReadyH.cons (o := { dst := none, op := Op.store 38 (Operand.tmp 9) (Operand.tmp 59), type := 0, pos := "law.go:151", after := #[{ on := 4, ground := Ground.data }, { on := 1, ground := Ground.data }, { on := 3, ground := Ground.chain }, { on := 0, ground := Ground.phase }, { on := 1, ground := Ground.phase }, { on := 2, ground := Ground.textOnly Departure.lateStores }, { on := 3, ground := Ground.textOnly Departure.lateStoresUnsure }, { on := 4, ground := Ground.phase }, { on := 5, ground := Ground.phase }], guard := none }) rfl (fun K hK => ?_) AllReadyH.nil)
                  rw [if_pos (by rfl)]
                  refine wp_store_mid 38 _ _ rfl _ 0 L1.toArray rfl rfl f1 f3 f5 ?_
                  refine hK.out _ _ (f7) (fun g8 => ?_)
                  clear hK K
                  simp only [Act.put]
                  refine wpAnyH_ready (rs := [7]) (by kernel_rfl) (by decide) (AllReadyH.cons (o := { dst := none, op := Op.store 38 (Operand.tmp 10) (Operand.tmp 61), type := 0, pos := "law.go:151", after := #[{ on := 5, ground := Ground.data }, { on := 3, ground := Ground.data }, { on := 6, ground := Ground.chain }, { on := 0, ground := Ground.phase }, { on := 1, ground := Ground.phase }, { on := 2, ground := Ground.phase }, { on := 3, ground := Ground.phase }, { on := 4, ground := Ground.phase }, { on := 5, ground := Ground.phase }, { on := 6, ground := Ground.phase }], guard := none }) rfl (fun K hK => ?_) AllReadyH.nil)
                  rw [if_pos (by rfl)]
                  refine wp_store_mid 38 _ _ rfl _ 0 L2.toArray rfl rfl f2 f4 f6 ?_
                  refine hK.out _ _ (HF.out.row) (fun g9 => ?_)
                  clear hK K
                  simp only [Act.put]
                  refine wpAnyH_done (by kernel_rfl) ?_ _
                  exact HQ.out bb30 bb26 mm27 mm31 _ _ _ _ _ HF
      · as_aux_lemma =>
          rw [if_pos (by rfl)]
          go_simp
          have HN32 : Hid _ := HN26.out.alloc9 Z sZ
          refine hK.out _ _ HN32.out.row (fun gg32 => ?_)
          clear hK K
          obtain ⟨wn32, hwn32⟩ : ∃ wq, wn26.alloc (.cells Z 38) = wq := ⟨_, rfl⟩
          obtain ⟨bb32, hbb32⟩ : ∃ bq, wn26.heap.size = bq := ⟨_, rfl⟩
          rw [hwn32] at HN32 gg32
          rw [hwn32]
          rw [hbb32] at HN32
          try rw [hbb32]
          clear hwn32 hbb32 gg26
          refine wpAnyH_ready (rs := [1]) (by kernel_rfl) (by decide) (AllReadyH.cons (o := { dst := some 59, op := Op.call { callee := Callee.value (Operand.func 7), args := #[Operand.tmp 58], argTypes := #[38] }, type := 38, pos := "law.go:151", after := #[{ on := 0, ground := Ground.data }], guard := none }) rfl (fun K hK => ?_) AllReadyH.nil)
          · as_aux_lemma =>
              rw [if_pos (by rfl)]
              go_simp
              rw [← hM]
              refine (copy_any HN32.out.base _ _).mono ?_
              rintro _ wn33 ⟨mm33, rfl, hk, hT, hb⟩
              have HN33 : Hid _ := HN32.out.copy1 hk hT hb
              clear hk hT hb
              rw [hM]
              refine hK.out _ _ HN33.out.row (fun gg33 => ?_)
              clear hK K gg32
              refine wpAnyH_ready (rs := [3]) (by kernel_rfl) (by decide) (AllReadyH.cons (o := { dst := some 61, op := Op.call { callee := Callee.value (Operand.func 7), args := #[Operand.tmp 60], argTypes := #[38] }, type := 38, pos := "law.go:151", after := #[{ on := 2, ground := Ground.data }, { on := 1, ground := Ground.chain }], guard := none }) rfl (fun K hK => ?_) AllReadyH.nil)
              · as_aux_lemma =>
                  rw [if_pos (by rfl)]
                  go_simp
                  rw [← hM]
                  refine (copy_any HN33.out.base _ _).mono ?_
                  rintro _ wn34 ⟨mm34, rfl, hk, hT, hb⟩
                  have HN34 : Hid _ := HN33.out.copy2 hk hT hb
                  clear hk hT hb
                  rw [hM]
                  refine hK.out _ _ HN34.out.row (fun gg34 => ?_)
                  clear hK K gg33
                  obtain ⟨L1, hL1⟩ : ∃ L1, pagesL mm33 (fun _ => 0) (fun _ => 0) = L1 := ⟨_, rfl⟩
                  obtain ⟨L2, hL2⟩ : ∃ L2, pagesL mm34 (fun _ => 0) (fun _ => 0) = L2 := ⟨_, rfl⟩
                  have HF : Hid (Nin2 w3 w2.heap.size (w2.heap.size + 1) M bb32 bb26 mm33 mm34 ((wn34.setCells bb32 0 L1).setCells bb26 0 L2)) := HN34.out.stored L1 L2 hL1.symm hL2.symm
                  obtain ⟨f1, f2, f3, f4, f5, f6, f7⟩ := nine_facts HN34.out L1 L2 hL1.symm hL2.symm
                  rw [hL1, hL2]
                  refine wpAnyH_ready (rs := [6]) (by kernel_rfl) (by decide) (AllReadyH.cons (o := { dst := none, op := Op.store 38 (Operand.tmp 9) (Operand.tmp 59), type := 0, pos := "law.go:151", after := #[{ on := 4, ground := Ground.data }, { on := 1, ground := Ground.data }, { on := 3, ground := Ground.chain }, { on := 0, ground := Ground.phase }, { on := 1, ground := Ground.phase }, { on := 2, ground := Ground.textOnly Departure.lateStores }, { on := 3, ground := Ground.textOnly Departure.lateStoresUnsure }, { on := 4, ground := Ground.phase }, { on := 5, ground := Ground.phase }], guard := none }) rfl (fun K hK => ?_) AllReadyH.nil)
                  rw [if_pos (by rfl)]
                  refine wp_store_mid 38 _ _ rfl _ 0 L1.toArray rfl rfl f1 f3 f5 ?_
                  refine hK.out _ _ (f7) (fun g8 => ?_)
                  clear hK K
                  simp only [Act.put]
                  refine wpAnyH_ready (rs := [7]) (by kernel_rfl) (by decide) (AllReadyH.cons (o := { dst := none, op := Op.store 38 (Operand.tmp 10) (Operand.tmp 61), type := 0, pos := "law.go:151", after := #[{ on := 5, ground := Ground.data }, { on := 3, ground := Ground.data }, { on := 6, ground := Ground.chain }, { on := 0, ground := Ground.phase }, { on := 1, ground := Ground.phase }, { on := 2, ground := Ground.phase }, { on := 3, ground := Ground.phase }, { on := 4, ground := Ground.phase }, { on := 5, ground := Ground.phase }, { on := 6, ground := Ground.phase }], guard := none }) rfl (fun K hK => ?_) AllReadyH.nil)
                  rw [if_pos (by rfl)]
                  refine wp_store_mid 38 _ _ rfl _ 0 L2.toArray rfl rfl f2 f4 f6 ?_
                  refine hK.out _ _ (HF.out.row) (fun g9 => ?_)
                  clear hK K
                  simp only [Act.put]
                  refine wpAnyH_done (by kernel_rfl) ?_ _
                  exact HQ.out bb32 bb26 mm33 mm34 _ _ _ _ _ HF
end Go.Proofs.YtjnjjpdgifnnpaaGreatDoor
