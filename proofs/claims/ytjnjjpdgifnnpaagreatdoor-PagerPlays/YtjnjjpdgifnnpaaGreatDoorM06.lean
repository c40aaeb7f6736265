/- Texts of the proof of PagerPlays: Pc1, Pc2. -/
import Derived.Test.YtjnjjpdgifnnpaaGreatDoorM05
import Derived.Deep.DeepCutAuto
import Derived.Deep.CutBlock
import Derived.BigQuiet
namespace Go.Proofs.YtjnjjpdgifnnpaaGreatDoor
open Go.RowKit Go.Maps
set_option maxRecDepth 100000 in
set_option maxHeartbeats 20000000 in
theorem case1 {Q : Exit → Act → World → Prop} {v0 v1 v2 v5 v6 v7 v13 v15 v18 v19 v20 v21 v22 v23 v24 v25 v26 v27 v28 v29 v30 v31 v32 v33 v34 v35 v36 v37 v38 v39 v40 v41 v42 v43 v44 v45 v46 v47 v48 v49 v50 v51 v52 v53 v54 v55 v56 v57 v58 v59 v60 v61 v62 v63 v64 v65 v66 v67 v68 v69 v70 v71 v72 v73 v74 v75 v76 v77 v78 v79 v80 v81 v82 v84 v85 v86 v87 v88 v89 v90 v91 v92 v93 v94 v95 v96 v97 v98 v99 v100 v101 v102 v103 v104 v105 v106 v107 v108 v109 v110 v111 v112 v113 v114 v115 v116 v117 v118 v119 v120 v121 v122 v123 v124 v125 v126 v127 v128 v129 v130 v131 v132 v133 v134 v135 v136 v137 v138 v139 v140 v141 v142 v143 v144 v145 v146 v147 v148 v149 v150 v151 v152 v153 v154 v155 v156 v157 v158 v159 v160 v161 v162 v163 v164 v165 v166 v167 v168 v169 v170 v171 v172 v173 v174 v175 v176 v177 v178 v179 v180 v181 v182 v183 v184 v185 v186 v187 v188 v189 v190 v191 v192 v193 v194 v195 v196 v197 v198 v199 v200 v201 v202 v203 v204 v205 v206 v207 v208 v209 v210 v211 v212 v213 v214 v215 v216 v217 v218 v219 v220 v221 v222 v223 v224 v225 v226 v227 v228 v229 v230 v231 v232 v233 v234 v235 v236 v237 v238 v239 v240 v241 v242 v243 v244 v245 v246 v247 v248 v249 v250 v251 v252 v253 v254 v255 v256 v257 v258 v259 v260 v261 v262 v263 v264 v265 v266 v267 v268 v269 v270 v271 v272 v273 v274 v275 v276 v277 v278 v279 v280 v281 v282 v283 v284 v285 v286 v287 v288 v289 v290 v291 v292 v293 v294 v295 v296 v297 v298 v299 v300 v301 v302 v303 v304 v305 v306 v307 v308 v309 v310 v311 v312 v313 v314 v315 v316 v317 v318 v319 v320 v321 v322 v323 v324 v325 v326 v327 v328 v329 v330 v331 : Value} {a0 b1 a2 b9 b10 a5 b6 b7 b8 c9 c10 bx k : Nat} {x : Ps} {d : Dc} {a c t : Int} {u f : Bool} {w wx : World}
    (hk50 : k < 50) (HW : Hid (HG w)) (HE1 : Hid (Env (B11 a0 b1 a2 b9 b10 a5 b6 b7 b8 c9 c10) x d (2000 + 2 * k) w wx)) (HX : Hid (Xrow bx 1 a c t wx)) (HBx : Hid (∀ i, i < 11 → B11 a0 b1 a2 b9 b10 a5 b6 b7 b8 c9 c10 i < bx)) (HA : Hid (Alike x d)) (HFw : Hid (Few k x)) (HUse : Hid ((fi d.F a).isSome = u)) (hff : Hid (f = x.fresh)) (hP : ∀ (c : List PanicEntry) (a : Act) (d : Option Tmp) (v : Value) (w : World), Q (.panic c) (a.put d v) w → Q (.panic c) a w)
    (hQ : ∀ (e1 e6 e7 e8 e9 e10 : Nat) (x : Ps) (d : Dc) (wz : World) (g : Bool) (y2 y5 y17 y18 y19 y84 y85 y86 y87 y88 y89 y90 y91 y92 y93 y94 y95 y96 y97 y98 y99 y100 y101 y102 y103 y104 y105 y106 y107 y108 y109 y110 y111 y112 y113 y114 y115 y116 y117 y118 y119 y120 y121 y122 y123 y124 y125 y126 y127 y128 y129 y130 y131 y132 y133 y134 y135 y136 y137 y138 y139 y140 y141 y142 y143 y144 y145 y146 y147 y148 y149 y150 y151 y152 y153 y154 y155 y156 y157 y158 y159 y160 y161 y162 y163 y164 y165 y166 y167 y168 y169 y170 y171 y172 y173 y174 y175 y176 y177 y178 y179 y180 y181 y182 y183 y184 y185 y186 y187 y188 y189 y190 y191 y192 y193 y194 y195 y196 y197 y198 y199 y200 y201 y202 y203 y204 y205 y206 y207 y208 y209 y210 y211 y212 y213 y214 y215 y216 y217 y218 y219 y220 y221 y222 y223 y224 y225 y226 y227 y228 y229 y230 y231 y232 y233 y234 y235 y236 y237 y238 y239 y240 y241 y242 y243 y244 y245 y246 y247 y248 y249 : Value), g = x.fresh → Hid (Env (B11 a0 e1 a2 b9 b10 a5 e6 e7 e8 e9 e10) x d (2000 + 2 * (k + 1)) w wz) → Hid (Alike x d) → Hid (Few (k + 1) x) → Q .normal { tmps := #[v0, v1, y2, .pointer (some ⟨a0, 0, none⟩), .pointer (some ⟨e1, 0, none⟩), y5, v6, v7, .pointer (some ⟨a2, 0, none⟩), .pointer (some ⟨b9, 0, none⟩), .pointer (some ⟨b10, 0, none⟩), .pointer (some ⟨a5, 0, none⟩), .bool g, v13, .pointer (some ⟨bx, 0, none⟩), v15, .bool u, y17, y18, y19, v20, v21, v22, v23, v24, v25, v26, v27, v28, v29, v30, v31, v32, v33, v34, v35, v36, v37, v38, v39, v40, v41, v42, v43, v44, v45, v46, v47, v48, v49, v50, v51, v52, v53, v54, v55, v56, v57, v58, v59, v60, v61, v62, v63, v64, v65, v66, v67, v68, v69, v70, v71, v72, v73, v74, v75, v76, v77, v78, v79, v80, v81, v82, .int .i64 1, y84, y85, y86, y87, y88, y89, y90, y91, y92, y93, y94, y95, y96, y97, y98, y99, y100, y101, y102, y103, y104, y105, y106, y107, y108, y109, y110, y111, y112, y113, y114, y115, y116, y117, y118, y119, y120, y121, y122, y123, y124, y125, y126, y127, y128, y129, y130, y131, y132, y133, y134, y135, y136, y137, y138, y139, y140, y141, y142, y143, y144, y145, y146, y147, y148, y149, y150, y151, y152, y153, y154, y155, y156, y157, y158, y159, y160, y161, y162, y163, y164, y165, y166, y167, y168, y169, y170, y171, y172, y173, y174, y175, y176, y177, y178, y179, y180, y181, y182, y183, y184, y185, y186, y187, y188, y189, y190, y191, y192, y193, y194, y195, y196, y197, y198, y199, y200, y201, y202, y203, y204, y205, y206, y207, y208, y209, y210, y211, y212, y213, y214, y215, y216, y217, y218, y219, y220, y221, y222, y223, y224, y225, y226, y227, y228, y229, y230, y231, y232, y233, y234, y235, y236, y237, y238, y239, y240, y241, y242, y243, y244, y245, y246, y247, y248, y249, v250, v251, v252, v253, v254, v255, v256, v257, v258, v259, v260, v261, v262, v263, v264, v265, v266, v267, v268, v269, v270, v271, v272, v273, v274, v275, v276, v277, v278, v279, v280, v281, v282, v283, v284, v285, v286, v287, v288, v289, v290, v291, v292, v293, v294, v295, v296, v297, v298, v299, v300, v301, v302, v303, v304, v305, v306, v307, v308, v309, v310, v311, v312, v313, v314, v315, v316, v317, v318, v319, v320, v321, v322, v323, v324, v325, v326, v327, v328, v329, v330, v331], defers := [] } wz) :
    Code.wp Tryz.prog swCode Q { tmps := #[v0, v1, v2, .pointer (some ⟨a0, 0, none⟩), .pointer (some ⟨b1, 0, none⟩), v5, v6, v7, .pointer (some ⟨a2, 0, none⟩), .pointer (some ⟨b9, 0, none⟩), .pointer (some ⟨b10, 0, none⟩), .pointer (some ⟨a5, 0, none⟩), .bool f, v13, .pointer (some ⟨bx, 0, none⟩), v15, .bool u, .int .i64 2, v18, v19, v20, v21, v22, v23, v24, v25, v26, v27, v28, v29, v30, v31, v32, v33, v34, v35, v36, v37, v38, v39, v40, v41, v42, v43, v44, v45, v46, v47, v48, v49, v50, v51, v52, v53, v54, v55, v56, v57, v58, v59, v60, v61, v62, v63, v64, v65, v66, v67, v68, v69, v70, v71, v72, v73, v74, v75, v76, v77, v78, v79, v80, v81, v82, .int .i64 1, v84, v85, v86, v87, v88, v89, v90, v91, v92, v93, v94, v95, v96, v97, v98, v99, v100, v101, v102, v103, v104, v105, v106, v107, v108, v109, v110, v111, v112, v113, v114, v115, v116, v117, v118, v119, v120, v121, v122, v123, v124, v125, v126, v127, v128, v129, v130, v131, v132, v133, v134, v135, v136, v137, v138, v139, v140, v141, v142, v143, v144, v145, v146, v147, v148, v149, v150, v151, v152, v153, v154, v155, v156, v157, v158, v159, v160, v161, v162, v163, v164, v165, v166, v167, v168, v169, v170, v171, v172, v173, v174, v175, v176, v177, v178, v179, v180, v181, v182, v183, v184, v185, v186, v187, v188, v189, v190, v191, v192, v193, v194, v195, v196, v197, v198, v199, v200, v201, v202, v203, v204, v205, v206, v207, v208, v209, v210, v211, v212, v213, v214, v215, v216, v217, v218, v219, v220, v221, v222, v223, v224, v225, v226, v227, v228, v229, v230, v231, v232, v233, v234, v235, v236, v237, v238, v239, v240, v241, v242, v243, v244, v245, v246, v247, v248, v249, v250, v251, v252, v253, v254, v255, v256, v257, v258, v259, v260, v261, v262, v263, v264, v265, v266, v267, v268, v269, v270, v271, v272, v273, v274, v275, v276, v277, v278, v279, v280, v281, v282, v283, v284, v285, v286, v287, v288, v289, v290, v291, v292, v293, v294, v295, v296, v297, v298, v299, v300, v301, v302, v303, v304, v305, v306, v307, v308, v309, v310, v311, v312, v313, v314, v315, v316, v317, v318, v319, v320, v321, v322, v323, v324, v325, v326, v327, v328, v329, v330, v331], defers := [] } wx := by
  have HQ : Hid _ := hQ
  have HP : Hid _ := hP
  clear hQ hP
  have _u1 := HW
  have _u2 := HBx
  have _u3 := HUse
  have _u4 := hff
  have _u5 := HP
  have _u6 := hk50
  have x0 := HX.out.q
  unfold swCode
  have x1 := HX.out.a
  have r2 : wx.cell? ⟨a2, 0, none⟩ = some (.map (some b7)) := HE1.out.nowCell
  rcases HA.out.used a with ⟨j, rfl, hj, hu, hf⟩ | ⟨hc, hf⟩
  · obtain rfl : u = true := by rw [← HUse.out, hf]; rfl
    have HU : Hid (x.p.used j = true) := hu
    clear hu hf HUse
    go_wp2_with (at_delete; refine del_text _ rfl _ _ rfl HE1.out.now j hj rfl rfl ?_; intro w7 hT7 hO7; have HE2 : Hid (Env (B11 a0 b1 a2 b9 b10 a5 b6 b7 b8 c9 c10) x { d with F := put d.F j none } (2000 + 2 * k) w w7) := HE1.out.turn hT7 hO7; have HX2 : Hid (Xrow bx 1 (j : Int) c t w7) := HX.out.only hO7 (fun e => Nat.lt_irrefl _ (e ▸ HBx.out 7 (Nat.lt_of_sub_eq_succ rfl))); have x1b := HX2.out.a; clear hT7 hO7)
    refine (freep_yes HE2.out.pgr HE2.out.down j hj HU.out).mono ?_
    rintro _ w8 ⟨rfl, hP8, hO8⟩
    have HE3 : Hid (Env (B11 a0 b1 a2 b9 b10 a5 b6 b7 b8 c9 c10) { x with p := x.p.free j } { d with F := put d.F j none } (2000 + 2 * k) w w8) := HE2.out.pager hP8 hO8 (HE2.out.ok.free j) (fun _ _ => rfl) rfl rfl
    clear hP8 hO8 x1 r2 x1b
    go_wp2_with fail
    refine (bare_any _ 0 _ (HE3.out.hg HW.out) (.inl ⟨rfl, rfl, rfl⟩)).mono ?_
    rintro _ w9 ⟨rfl, hb9⟩
    have HE4 : Hid (Env (B11 a0 b1 a2 b9 b10 a5 b6 b7 b8 c9 c10) { x with p := x.p.free j } { d with F := put d.F j none } (2000 + 2 * (k + 1)) w w9) := (HE3.out.step hb9).mono (by omega)
    clear hb9
    go_wp2_with fail
    exact HQ.out b1 b6 b7 b8 c9 c10 { x with p := x.p.free j } { d with F := put d.F j none } _ _ _ _ _ _ _ _ _ _ _ _ _ _ _ _ _ _ _ _ _ _ _ _ _ _ _ _ _ _ _ _ _ _ _ _ _ _ _ _ _ _ _ _ _ _ _ _ _ _ _ _ _ _ _ _ _ _ _ _ _ _ _ _ _ _ _ _ _ _ _ _ _ _ _ _ _ _ _ _ _ _ _ _ _ _ _ _ _ _ _ _ _ _ _ _ _ _ _ _ _ _ _ _ _ _ _ _ _ _ _ _ _ _ _ _ _ _ _ _ _ _ _ _ _ _ _ _ _ _ _ _ _ _ _ _ _ _ _ _ _ _ _ _ _ _ _ _ _ _ _ _ _ _ _ _ _ _ _ _ _ _ _ _ _ _ _ _ _ _ _ _ _ hff.out HE4 (HA.out.free j) ((HFw.out.free j).mono (by omega))
  · obtain rfl : u = false := by rw [← HUse.out, hf]; rfl
    clear hf HUse
    go_wp2_with fail
    refine (freep_no HE1.out.pgr.cells a hc).mono ?_
    rintro _ w8 ⟨rfl, hw8⟩
    subst w8
    go_wp2_with fail
    refine (bare_any _ 2 _ (HE1.out.hg HW.out) (.inr (.inr ⟨rfl, rfl⟩))).mono ?_
    rintro _ w9 ⟨rfl, hb9⟩
    have HE4 : Hid (Env (B11 a0 b1 a2 b9 b10 a5 b6 b7 b8 c9 c10) x d (2000 + 2 * (k + 1)) w w9) := (HE1.out.step hb9).mono (by omega)
    clear hb9 x1 r2 x0
    go_wp2_with fail
    exact HQ.out b1 b6 b7 b8 c9 c10 x d _ _ _ _ _ _ _ _ _ _ _ _ _ _ _ _ _ _ _ _ _ _ _ _ _ _ _ _ _ _ _ _ _ _ _ _ _ _ _ _ _ _ _ _ _ _ _ _ _ _ _ _ _ _ _ _ _ _ _ _ _ _ _ _ _ _ _ _ _ _ _ _ _ _ _ _ _ _ _ _ _ _ _ _ _ _ _ _ _ _ _ _ _ _ _ _ _ _ _ _ _ _ _ _ _ _ _ _ _ _ _ _ _ _ _ _ _ _ _ _ _ _ _ _ _ _ _ _ _ _ _ _ _ _ _ _ _ _ _ _ _ _ _ _ _ _ _ _ _ _ _ _ _ _ _ _ _ _ _ _ _ _ _ _ _ _ _ _ _ _ _ _ _ hff.out HE4 HA (HFw.out.mono (by omega))
end Go.Proofs.YtjnjjpdgifnnpaaGreatDoor
namespace Go.Proofs.YtjnjjpdgifnnpaaGreatDoor
open Go.RowKit Go.Maps
set_option maxRecDepth 100000 in
set_option maxHeartbeats 20000000 in
theorem case2 {Q : Exit → Act → World → Prop} {v0 v1 v2 v5 v6 v7 v13 v15 v18 v19 v20 v21 v22 v23 v24 v25 v26 v27 v28 v29 v30 v31 v32 v33 v34 v35 v36 v37 v38 v39 v40 v41 v42 v43 v44 v45 v46 v47 v48 v49 v50 v51 v52 v53 v54 v55 v56 v57 v58 v59 v60 v61 v62 v63 v64 v65 v66 v67 v68 v69 v70 v71 v72 v73 v74 v75 v76 v77 v78 v79 v80 v81 v82 v84 v85 v86 v87 v88 v89 v90 v91 v92 v93 v94 v95 v96 v97 v98 v99 v100 v101 v102 v103 v104 v105 v106 v107 v108 v109 v110 v111 v112 v113 v114 v115 v116 v117 v118 v119 v120 v121 v122 v123 v124 v125 v126 v127 v128 v129 v130 v131 v132 v133 v134 v135 v136 v137 v138 v139 v140 v141 v142 v143 v144 v145 v146 v147 v148 v149 v150 v151 v152 v153 v154 v155 v156 v157 v158 v159 v160 v161 v162 v163 v164 v165 v166 v167 v168 v169 v170 v171 v172 v173 v174 v175 v176 v177 v178 v179 v180 v181 v182 v183 v184 v185 v186 v187 v188 v189 v190 v191 v192 v193 v194 v195 v196 v197 v198 v199 v200 v201 v202 v203 v204 v205 v206 v207 v208 v209 v210 v211 v212 v213 v214 v215 v216 v217 v218 v219 v220 v221 v222 v223 v224 v225 v226 v227 v228 v229 v230 v231 v232 v233 v234 v235 v236 v237 v238 v239 v240 v241 v242 v243 v244 v245 v246 v247 v248 v249 v250 v251 v252 v253 v254 v255 v256 v257 v258 v259 v260 v261 v262 v263 v264 v265 v266 v267 v268 v269 v270 v271 v272 v273 v274 v275 v276 v277 v278 v279 v280 v281 v282 v283 v284 v285 v286 v287 v288 v289 v290 v291 v292 v293 v294 v295 v296 v297 v298 v299 v300 v301 v302 v303 v304 v305 v306 v307 v308 v309 v310 v311 v312 v313 v314 v315 v316 v317 v318 v319 v320 v321 v322 v323 v324 v325 v326 v327 v328 v329 v330 v331 : Value} {a0 b1 a2 b9 b10 a5 b6 b7 b8 c9 c10 bx k : Nat} {x : Ps} {d : Dc} {a c t : Int} {u f : Bool} {w wx : World}
    (hk50 : k < 50) (HW : Hid (HG w)) (HE1 : Hid (Env (B11 a0 b1 a2 b9 b10 a5 b6 b7 b8 c9 c10) x d (2000 + 2 * k) w wx)) (HX : Hid (Xrow bx 2 a c t wx)) (HBx : Hid (∀ i, i < 11 → B11 a0 b1 a2 b9 b10 a5 b6 b7 b8 c9 c10 i < bx)) (HA : Hid (Alike x d)) (HFw : Hid (Few k x)) (HUse : Hid ((fi d.F a).isSome = u)) (hff : Hid (f = x.fresh)) (hP : ∀ (c : List PanicEntry) (a : Act) (d : Option Tmp) (v : Value) (w : World), Q (.panic c) (a.put d v) w → Q (.panic c) a w)
    (hQ : ∀ (e1 e6 e7 e8 e9 e10 : Nat) (x : Ps) (d : Dc) (wz : World) (g : Bool) (y2 y5 y17 y18 y19 y84 y85 y86 y87 y88 y89 y90 y91 y92 y93 y94 y95 y96 y97 y98 y99 y100 y101 y102 y103 y104 y105 y106 y107 y108 y109 y110 y111 y112 y113 y114 y115 y116 y117 y118 y119 y120 y121 y122 y123 y124 y125 y126 y127 y128 y129 y130 y131 y132 y133 y134 y135 y136 y137 y138 y139 y140 y141 y142 y143 y144 y145 y146 y147 y148 y149 y150 y151 y152 y153 y154 y155 y156 y157 y158 y159 y160 y161 y162 y163 y164 y165 y166 y167 y168 y169 y170 y171 y172 y173 y174 y175 y176 y177 y178 y179 y180 y181 y182 y183 y184 y185 y186 y187 y188 y189 y190 y191 y192 y193 y194 y195 y196 y197 y198 y199 y200 y201 y202 y203 y204 y205 y206 y207 y208 y209 y210 y211 y212 y213 y214 y215 y216 y217 y218 y219 y220 y221 y222 y223 y224 y225 y226 y227 y228 y229 y230 y231 y232 y233 y234 y235 y236 y237 y238 y239 y240 y241 y242 y243 y244 y245 y246 y247 y248 y249 : Value), g = x.fresh → Hid (Env (B11 a0 e1 a2 b9 b10 a5 e6 e7 e8 e9 e10) x d (2000 + 2 * (k + 1)) w wz) → Hid (Alike x d) → Hid (Few (k + 1) x) → Q .normal { tmps := #[v0, v1, y2, .pointer (some ⟨a0, 0, none⟩), .pointer (some ⟨e1, 0, none⟩), y5, v6, v7, .pointer (some ⟨a2, 0, none⟩), .pointer (some ⟨b9, 0, none⟩), .pointer (some ⟨b10, 0, none⟩), .pointer (some ⟨a5, 0, none⟩), .bool g, v13, .pointer (some ⟨bx, 0, none⟩), v15, .bool u, y17, y18, y19, v20, v21, v22, v23, v24, v25, v26, v27, v28, v29, v30, v31, v32, v33, v34, v35, v36, v37, v38, v39, v40, v41, v42, v43, v44, v45, v46, v47, v48, v49, v50, v51, v52, v53, v54, v55, v56, v57, v58, v59, v60, v61, v62, v63, v64, v65, v66, v67, v68, v69, v70, v71, v72, v73, v74, v75, v76, v77, v78, v79, v80, v81, v82, .int .i64 2, y84, y85, y86, y87, y88, y89, y90, y91, y92, y93, y94, y95, y96, y97, y98, y99, y100, y101, y102, y103, y104, y105, y106, y107, y108, y109, y110, y111, y112, y113, y114, y115, y116, y117, y118, y119, y120, y121, y122, y123, y124, y125, y126, y127, y128, y129, y130, y131, y132, y133, y134, y135, y136, y137, y138, y139, y140, y141, y142, y143, y144, y145, y146, y147, y148, y149, y150, y151, y152, y153, y154, y155, y156, y157, y158, y159, y160, y161, y162, y163, y164, y165, y166, y167, y168, y169, y170, y171, y172, y173, y174, y175, y176, y177, y178, y179, y180, y181, y182, y183, y184, y185, y186, y187, y188, y189, y190, y191, y192, y193, y194, y195, y196, y197, y198, y199, y200, y201, y202, y203, y204, y205, y206, y207, y208, y209, y210, y211, y212, y213, y214, y215, y216, y217, y218, y219, y220, y221, y222, y223, y224, y225, y226, y227, y228, y229, y230, y231, y232, y233, y234, y235, y236, y237, y238, y239, y240, y241, y242, y243, y244, y245, y246, y247, y248, y249, v250, v251, v252, v253, v254, v255, v256, v257, v258, v259, v260, v261, v262, v263, v264, v265, v266, v267, v268, v269, v270, v271, v272, v273, v274, v275, v276, v277, v278, v279, v280, v281, v282, v283, v284, v285, v286, v287, v288, v289, v290, v291, v292, v293, v294, v295, v296, v297, v298, v299, v300, v301, v302, v303, v304, v305, v306, v307, v308, v309, v310, v311, v312, v313, v314, v315, v316, v317, v318, v319, v320, v321, v322, v323, v324, v325, v326, v327, v328, v329, v330, v331], defers := [] } wz) :
    Code.wp Tryz.prog swCode Q { tmps := #[v0, v1, v2, .pointer (some ⟨a0, 0, none⟩), .pointer (some ⟨b1, 0, none⟩), v5, v6, v7, .pointer (some ⟨a2, 0, none⟩), .pointer (some ⟨b9, 0, none⟩), .pointer (some ⟨b10, 0, none⟩), .pointer (some ⟨a5, 0, none⟩), .bool f, v13, .pointer (some ⟨bx, 0, none⟩), v15, .bool u, .int .i64 2, v18, v19, v20, v21, v22, v23, v24, v25, v26, v27, v28, v29, v30, v31, v32, v33, v34, v35, v36, v37, v38, v39, v40, v41, v42, v43, v44, v45, v46, v47, v48, v49, v50, v51, v52, v53, v54, v55, v56, v57, v58, v59, v60, v61, v62, v63, v64, v65, v66, v67, v68, v69, v70, v71, v72, v73, v74, v75, v76, v77, v78, v79, v80, v81, v82, .int .i64 2, v84, v85, v86, v87, v88, v89, v90, v91, v92, v93, v94, v95, v96, v97, v98, v99, v100, v101, v102, v103, v104, v105, v106, v107, v108, v109, v110, v111, v112, v113, v114, v115, v116, v117, v118, v119, v120, v121, v122, v123, v124, v125, v126, v127, v128, v129, v130, v131, v132, v133, v134, v135, v136, v137, v138, v139, v140, v141, v142, v143, v144, v145, v146, v147, v148, v149, v150, v151, v152, v153, v154, v155, v156, v157, v158, v159, v160, v161, v162, v163, v164, v165, v166, v167, v168, v169, v170, v171, v172, v173, v174, v175, v176, v177, v178, v179, v180, v181, v182, v183, v184, v185, v186, v187, v188, v189, v190, v191, v192, v193, v194, v195, v196, v197, v198, v199, v200, v201, v202, v203, v204, v205, v206, v207, v208, v209, v210, v211, v212, v213, v214, v215, v216, v217, v218, v219, v220, v221, v222, v223, v224, v225, v226, v227, v228, v229, v230, v231, v232, v233, v234, v235, v236, v237, v238, v239, v240, v241, v242, v243, v244, v245, v246, v247, v248, v249, v250, v251, v252, v253, v254, v255, v256, v257, v258, v259, v260, v261, v262, v263, v264, v265, v266, v267, v268, v269, v270, v271, v272, v273, v274, v275, v276, v277, v278, v279, v280, v281, v282, v283, v284, v285, v286, v287, v288, v289, v290, v291, v292, v293, v294, v295, v296, v297, v298, v299, v300, v301, v302, v303, v304, v305, v306, v307, v308, v309, v310, v311, v312, v313, v314, v315, v316, v317, v318, v319, v320, v321, v322, v323, v324, v325, v326, v327, v328, v329, v330, v331], defers := [] } wx := by
  have HQ : Hid _ := hQ
  have HP : Hid _ := hP
  clear hQ hP
  have _u1 := HW
  have _u2 := HBx
  have _u3 := HUse
  have _u4 := hff
  have _u5 := HP
  have _u6 := hk50
  have x0 := HX.out.q
  unfold swCode
  rcases HA.out.used a with ⟨j, rfl, hj, hu, hf⟩ | ⟨hc, hf⟩
  · as_aux_lemma =>
      obtain rfl : u = true := by rw [← HUse.out, hf]; rfl
      have HU : Hid (x.p.used j = true) := hu
      clear hu hf HUse
      go_wp2_with fail
      have HE2 : Hid (Env (B11 a0 b1 a2 b9 b10 a5 b6 b7 b8 c9 c10) x d (2000 + 2 * k) w wx.drew) := HE1.out.drew
      have HX2 : Hid (Xrow bx 2 (j : Int) c t wx.drew) := HX.out.block rfl
      have HKx : Hid (∀ wq, Xrow bx 2 (j : Int) c t wq → wq.cell? ⟨a2, 0, none⟩ = some (.map (some b7)) → ThreeC wq bx a2 b7 j c) := fun wq h1 h2 => ⟨h2, h1.a, h1.n⟩
      clear x0
      refine wp_region_held_drew (S := fun wq => ThreeC wq bx a2 b7 j c) (by kernel_rfl) (HKx.out _ HX2.out HE2.out.nowCell) ?_
      intro g0
      refine wpAnyH_take (i := 0) (oi := { dst := some 115, op := Op.fieldAddr 38 (Operand.tmp 8) 0, type := 0, pos := "law.go:174", after := #[], guard := none }) (v := .pointer (some ⟨a2, 0, none⟩)) rfl (by kernel_rfl) (by kernel_rfl) (by kernel_rfl) (fun c a w h => HP.out c a _ _ w h) (Or.inl ⟨by rfl, fun wx _ => by go_simp⟩) g0 ?_
      simp only [Act.put, List.setIfInBounds_toArray, List.set_cons_zero, List.set_cons_succ]
      refine wpAnyH_take (i := 1) (oi := { dst := some 116, op := Op.load 34 (Operand.tmp 115), type := 34, pos := "law.go:174", after := #[{ on := 0, ground := Ground.data }], guard := none }) (v := .map (some b7)) rfl (by kernel_rfl) (by kernel_rfl) (by kernel_rfl) (fun c a w h => HP.out c a _ _ w h) (Or.inl ⟨by rfl, fun wx h => by have h8 := ThreeC.m h; go_simp⟩) g0 ?_
      simp only [Act.put, List.setIfInBounds_toArray, List.set_cons_zero, List.set_cons_succ]
      refine wpAnyH_take (i := 2) (oi := { dst := some 117, op := Op.fieldAddr 51 (Operand.tmp 14) 1, type := 0, pos := "law.go:174", after := #[], guard := none }) (v := .pointer (some ⟨bx, 1, none⟩)) rfl (by kernel_rfl) (by kernel_rfl) (by kernel_rfl) (fun c a w h => HP.out c a _ _ w h) (Or.inl ⟨by rfl, fun wx _ => by go_simp⟩) g0 ?_
      simp only [Act.put, List.setIfInBounds_toArray, List.set_cons_zero, List.set_cons_succ]
      refine wpAnyH_take (i := 3) (oi := { dst := some 118, op := Op.load 3 (Operand.tmp 117), type := 3, pos := "law.go:174", after := #[{ on := 2, ground := Ground.data }], guard := none }) (v := .int .i64 (j : Int)) rfl (by kernel_rfl) (by kernel_rfl) (by kernel_rfl) (fun c a w h => HP.out c a _ _ w h) (Or.inl ⟨by rfl, fun wx h => by have h8 := ThreeC.a h; go_simp⟩) g0 ?_
      simp only [Act.put, List.setIfInBounds_toArray, List.set_cons_zero, List.set_cons_succ]
      refine wpAnyH_take (i := 4) (oi := { dst := some 119, op := Op.fieldAddr 51 (Operand.tmp 14) 2, type := 0, pos := "law.go:174", after := #[], guard := none }) (v := .pointer (some ⟨bx, 2, none⟩)) rfl (by kernel_rfl) (by kernel_rfl) (by kernel_rfl) (fun c a w h => HP.out c a _ _ w h) (Or.inl ⟨by rfl, fun wx _ => by go_simp⟩) g0 ?_
      simp only [Act.put, List.setIfInBounds_toArray, List.set_cons_zero, List.set_cons_succ]
      refine wpAnyH_take (i := 5) (oi := { dst := some 120, op := Op.load 3 (Operand.tmp 119), type := 3, pos := "law.go:174", after := #[{ on := 4, ground := Ground.data }], guard := none }) (v := .int .i64 c) rfl (by kernel_rfl) (by kernel_rfl) (by kernel_rfl) (fun c a w h => HP.out c a _ _ w h) (Or.inl ⟨by rfl, fun wx h => by have h8 := ThreeC.n h; go_simp⟩) g0 ?_
      simp only [Act.put, List.setIfInBounds_toArray, List.set_cons_zero, List.set_cons_succ]
      refine wpAnyH_ready (rs := [6]) (by kernel_rfl) (by decide) (AllReadyH.cons (o := { dst := some 121, op := Op.call { callee := Callee.value (Operand.func 12), args := #[Operand.tmp 120], argTypes := #[3] }, type := 9, pos := "law.go:174", after := #[{ on := 5, ground := Ground.data }], guard := none }) rfl (fun K hK => ?_) AllReadyH.nil)
      rw [if_pos (by rfl)]
      go_simp
      refine (page_any c _).mono ?_
      rintro _ w7 ⟨rfl, hb7⟩
      have HE3 : Hid (Env (B11 a0 b1 a2 b9 b10 a5 b6 b7 b8 c9 c10) x d (2000 + 2 * k) w w7) := HE2.out.step hb7
      have HX3 : Hid (Xrow bx 2 (j : Int) c t w7) := HX2.out.below hb7
      clear hb7
      refine hK.out _ _ (HKx.out _ HX3.out HE3.out.nowCell) (fun g1 => ?_)
      clear hK K
      try simp only [Act.put, List.setIfInBounds_toArray, List.set_cons_zero, List.set_cons_succ]
      obtain ⟨w8, hst8, hT8, hO8⟩ := store_text (show Texts b7 _ _ w7 from HE3.out.now) (by omega) j hj (pageOf c) (pageOf_size c)
      have HE4 : Hid (Env (B11 a0 b1 a2 b9 b10 a5 b6 b7 b8 c9 c10) x { d with F := put d.F j (some (pageOf c)) } (2000 + 2 * k + 1) w w8) := (HE3.out.mono (by omega)).turn hT8 hO8
      have HX4 : Hid (Xrow bx 2 (j : Int) c t w8) := HX3.out.only hO8 (fun e => Nat.lt_irrefl _ (e ▸ HBx.out 7 (by omega)))
      refine wpAnyH_ready (rs := [7]) (by kernel_rfl) (by decide) (AllReadyH.cons (o := { dst := none, op := Op.mapUpdate 34 (Operand.tmp 116) (Operand.tmp 118) (Operand.tmp 121), type := 0, pos := "law.go:174", after := #[{ on := 1, ground := Ground.data }, { on := 3, ground := Ground.data }, { on := 6, ground := Ground.data }, { on := 6, ground := Ground.chain }, { on := 0, ground := Ground.phase }, { on := 1, ground := Ground.phase }, { on := 2, ground := Ground.phase }, { on := 3, ground := Ground.phase }, { on := 4, ground := Ground.phase }, { on := 5, ground := Ground.phase }, { on := 6, ground := Ground.phase }], guard := none }) rfl (fun K hK => ?_) AllReadyH.nil)
      rw [if_pos (by rfl)]
      go_simp
      refine hK.out _ _ (HKx.out _ HX4.out HE4.out.nowCell) (fun g2 => ?_)
      clear hK K
      refine wpAnyH_done (by kernel_rfl) ?_ _
      clear g0 g1 g2 hst8 hT8 hO8 HE2 HE3 HX2 HX3
      go_wp2_with fail
      have HE5 : Hid (Env (B11 a0 b1 a2 b9 b10 a5 b6 b7 b8 c9 c10) x { d with F := put d.F j (some (pageOf c)) } (2000 + 2 * k + 1) w w8.drew) := HE4.out.drew
      have HX5 : Hid (Xrow bx 2 (j : Int) c t w8.drew) := HX4.out.block rfl
      refine wp_region_held_drew (S := fun wq => ThreeC wq bx a2 b7 j c) (by kernel_rfl) (HKx.out _ HX5.out HE5.out.nowCell) ?_
      intro g0
      refine wpAnyH_take (i := 0) (oi := { dst := some 122, op := Op.move (Operand.tmp 4), type := 27, pos := "law.go:176", after := #[], guard := none }) (v := .pointer (some ⟨b1, 0, none⟩)) rfl (by kernel_rfl) (by kernel_rfl) (by kernel_rfl) (fun c a w h => HP.out c a _ _ w h) (Or.inl ⟨by rfl, fun wx _ => by go_simp⟩) g0 ?_
      simp only [Act.put, List.setIfInBounds_toArray, List.set_cons_zero, List.set_cons_succ]
      refine wpAnyH_take (i := 1) (oi := { dst := some 123, op := Op.fieldAddr 51 (Operand.tmp 14) 1, type := 0, pos := "law.go:176", after := #[], guard := none }) (v := .pointer (some ⟨bx, 1, none⟩)) rfl (by kernel_rfl) (by kernel_rfl) (by kernel_rfl) (fun c a w h => HP.out c a _ _ w h) (Or.inl ⟨by rfl, fun wx _ => by go_simp⟩) g0 ?_
      simp only [Act.put, List.setIfInBounds_toArray, List.set_cons_zero, List.set_cons_succ]
      refine wpAnyH_take (i := 2) (oi := { dst := some 124, op := Op.load 3 (Operand.tmp 123), type := 3, pos := "law.go:176", after := #[{ on := 1, ground := Ground.data }], guard := none }) (v := .int .i64 (j : Int)) rfl (by kernel_rfl) (by kernel_rfl) (by kernel_rfl) (fun c a w h => HP.out c a _ _ w h) (Or.inl ⟨by rfl, fun wx h => by have h8 := ThreeC.a h; go_simp⟩) g0 ?_
      simp only [Act.put, List.setIfInBounds_toArray, List.set_cons_zero, List.set_cons_succ]
      refine wpAnyH_take (i := 3) (oi := { dst := some 125, op := Op.fieldAddr 51 (Operand.tmp 14) 2, type := 0, pos := "law.go:176", after := #[], guard := none }) (v := .pointer (some ⟨bx, 2, none⟩)) rfl (by kernel_rfl) (by kernel_rfl) (by kernel_rfl) (fun c a w h => HP.out c a _ _ w h) (Or.inl ⟨by rfl, fun wx _ => by go_simp⟩) g0 ?_
      simp only [Act.put, List.setIfInBounds_toArray, List.set_cons_zero, List.set_cons_succ]
      refine wpAnyH_take (i := 4) (oi := { dst := some 126, op := Op.load 3 (Operand.tmp 125), type := 3, pos := "law.go:176", after := #[{ on := 3, ground := Ground.data }], guard := none }) (v := .int .i64 c) rfl (by kernel_rfl) (by kernel_rfl) (by kernel_rfl) (fun c a w h => HP.out c a _ _ w h) (Or.inl ⟨by rfl, fun wx h => by have h8 := ThreeC.n h; go_simp⟩) g0 ?_
      simp only [Act.put, List.setIfInBounds_toArray, List.set_cons_zero, List.set_cons_succ]
      refine wpAnyH_take (i := 7) (oi := { dst := some 129, op := Op.move (Operand.tmp 17), type := 33, pos := "law.go:176", after := #[], guard := none }) (v := .int .i64 0) rfl (by kernel_rfl) (by kernel_rfl) (by kernel_rfl) (fun c a w h => HP.out c a _ _ w h) (Or.inl ⟨by rfl, fun wx _ => by go_simp⟩) g0 ?_
      simp only [Act.put, List.setIfInBounds_toArray, List.set_cons_zero, List.set_cons_succ]
      refine wpAnyH_ready (rs := [5]) (by kernel_rfl) (by decide) (AllReadyH.cons (o := { dst := some 127, op := Op.call { callee := Callee.value (Operand.func 12), args := #[Operand.tmp 126], argTypes := #[3] }, type := 9, pos := "law.go:176", after := #[{ on := 4, ground := Ground.data }], guard := none }) rfl (fun K hK => ?_) AllReadyH.nil)
      rw [if_pos (by rfl)]
      go_simp
      refine (page_any c _).mono ?_
      rintro _ w9 ⟨rfl, hb9⟩
      have HE6 : Hid (Env (B11 a0 b1 a2 b9 b10 a5 b6 b7 b8 c9 c10) x { d with F := put d.F j (some (pageOf c)) } (2000 + 2 * k + 1) w w9) := HE5.out.step hb9
      have HX6 : Hid (Xrow bx 2 (j : Int) c t w9) := HX5.out.below hb9
      clear hb9
      refine hK.out _ _ (HKx.out _ HX6.out HE6.out.nowCell) (fun g1 => ?_)
      clear hK K
      try simp only [Act.put, List.setIfInBounds_toArray, List.set_cons_zero, List.set_cons_succ]
      refine wpAnyH_ready (rs := [6]) (by kernel_rfl) (by decide) (AllReadyH.cons (o := { dst := some 128, op := Op.call { callee := Callee.value (Operand.func 13), args := #[Operand.tmp 122, Operand.tmp 124, Operand.tmp 127], argTypes := #[27, 3, 9] }, type := 29, pos := "law.go:176", after := #[{ on := 0, ground := Ground.data }, { on := 2, ground := Ground.data }, { on := 5, ground := Ground.data }, { on := 5, ground := Ground.chain }], guard := none }) rfl (fun K hK => ?_) AllReadyH.nil)
      rw [if_pos (by rfl)]
      go_simp
      refine (writep_yes (show PagerIs b1 a0 b6 _ x.p w9 from HE6.out.pgr) (by omega) HE6.out.down j hj HU.out (pageOf c) (pageOf_size c)).mono ?_
      rintro _ w10 ⟨rfl, hP10, hO10⟩
      have HE7 : Hid (Env (B11 a0 b1 a2 b9 b10 a5 b6 b7 b8 c9 c10) { x with p := x.p.write j (pageOf c) } { d with F := put d.F j (some (pageOf c)) } (2000 + 2 * (k + 1)) w w10) := (HE6.out.mono (show 2000 + 2 * k + 1 ≤ 2000 + 2 * (k + 1) by omega)).pager (hP10.mono (by omega)) (hO10.mono (fun _ e => .inr e)) (HE6.out.ok.write hj HU.out _ (pageOf_size c)) (fun _ _ => rfl) rfl rfl
      have HX7 : Hid (Xrow bx 2 (j : Int) c t w10) := HX6.out.only hO10 (fun e => Nat.lt_irrefl _ (e ▸ HBx.out 6 (by omega)))
      clear hP10 hO10
      refine hK.out _ _ (HKx.out _ HX7.out HE7.out.nowCell) (fun g2 => ?_)
      clear hK K
      try simp only [Act.put, List.setIfInBounds_toArray, List.set_cons_zero, List.set_cons_succ]
      refine wpAnyH_ready (rs := [8]) (by kernel_rfl) (by decide) (AllReadyH.cons (o := { dst := some 130, op := Op.call { callee := Callee.value (Operand.func 6), args := #[Operand.tmp 128, Operand.tmp 129], argTypes := #[29, 33] }, type := 4, pos := "law.go:176", after := #[{ on := 6, ground := Ground.data }, { on := 7, ground := Ground.data }, { on := 6, ground := Ground.chain }], guard := none }) rfl (fun K hK => ?_) AllReadyH.nil)
      rw [if_pos (by rfl)]
      go_simp
      refine (bare_any _ 0 _ (HE7.out.hg HW.out) (.inl ⟨rfl, rfl, rfl⟩)).mono ?_
      rintro _ w11 ⟨rfl, hb11⟩
      have HE8 : Hid (Env (B11 a0 b1 a2 b9 b10 a5 b6 b7 b8 c9 c10) { x with p := x.p.write j (pageOf c) } { d with F := put d.F j (some (pageOf c)) } (2000 + 2 * (k + 1)) w w11) := HE7.out.step hb11
      have HX8 : Hid (Xrow bx 2 (j : Int) c t w11) := HX7.out.below hb11
      clear hb11
      refine hK.out _ _ (HKx.out _ HX8.out HE8.out.nowCell) (fun g3 => ?_)
      clear hK K
      try simp only [Act.put, List.setIfInBounds_toArray, List.set_cons_zero, List.set_cons_succ]
      refine wpAnyH_take (i := 9) (oi := { dst := some 131, op := Op.unOp UnOp.not 4 (Operand.tmp 130), type := 4, pos := "law.go:176", after := #[{ on := 8, ground := Ground.data }], guard := none }) (v := .bool false) rfl (by kernel_rfl) (by kernel_rfl) (by kernel_rfl) (fun c a w h => HP.out c a _ _ w h) (Or.inl ⟨by rfl, fun wx _ => by go_simp⟩) g3 ?_
      simp only [Act.put, List.setIfInBounds_toArray, List.set_cons_zero, List.set_cons_succ]
      refine wpAnyH_take (i := 10) (oi := { dst := some 132, op := Op.move (Operand.tmp 131), type := 4, pos := "law.go:176", after := #[{ on := 9, ground := Ground.data }, { on := 8, ground := Ground.chain }], guard := none }) (v := .bool false) rfl (by kernel_rfl) (by kernel_rfl) (by kernel_rfl) (fun c a w h => HP.out c a _ _ w h) (Or.inl ⟨by rfl, fun wx _ => by go_simp⟩) g3 ?_
      simp only [Act.put, List.setIfInBounds_toArray, List.set_cons_zero, List.set_cons_succ]
      refine wpAnyH_take (i := 11) (oi := { dst := some 133, op := Op.move (Operand.tmp 16), type := 4, pos := "law.go:176", after := #[{ on := 10, ground := Ground.guard }], guard := some (10, false) }) (v := .bool true) rfl (by kernel_rfl) (by kernel_rfl) (by kernel_rfl) (fun c a w h => HP.out c a _ _ w h) (Or.inl ⟨by rfl, fun wx _ => by go_simp⟩) g3 ?_
      simp only [Act.put, List.setIfInBounds_toArray, List.set_cons_zero, List.set_cons_succ]
      refine wpAnyH_take (i := 12) (oi := { dst := some 134, op := Op.move (Operand.tmp 133), type := 4, pos := "law.go:176", after := #[{ on := 11, ground := Ground.data }, { on := 10, ground := Ground.chain }, { on := 10, ground := Ground.guard }], guard := some (10, false) }) (v := .bool true) rfl (by kernel_rfl) (by kernel_rfl) (by kernel_rfl) (fun c a w h => HP.out c a _ _ w h) (Or.inl ⟨by rfl, fun wx _ => by go_simp⟩) g3 ?_
      simp only [Act.put, List.setIfInBounds_toArray, List.set_cons_zero, List.set_cons_succ]
      refine wpAnyH_take (i := 13) (oi := { dst := some 135, op := Op.move (Operand.tmp 4), type := 27, pos := "law.go:176", after := #[{ on := 12, ground := Ground.guard }], guard := some (12, true) }) (v := .pointer (some ⟨b1, 0, none⟩)) rfl (by kernel_rfl) (by kernel_rfl) (by kernel_rfl) (fun c a w h => HP.out c a _ _ w h) (Or.inl ⟨by rfl, fun wx _ => by go_simp⟩) g3 ?_
      simp only [Act.put, List.setIfInBounds_toArray, List.set_cons_zero, List.set_cons_succ]
      refine wpAnyH_take (i := 14) (oi := { dst := some 136, op := Op.fieldAddr 51 (Operand.tmp 14) 1, type := 0, pos := "law.go:176", after := #[{ on := 12, ground := Ground.guard }], guard := some (12, true) }) (v := .pointer (some ⟨bx, 1, none⟩)) rfl (by kernel_rfl) (by kernel_rfl) (by kernel_rfl) (fun c a w h => HP.out c a _ _ w h) (Or.inl ⟨by rfl, fun wx _ => by go_simp⟩) g3 ?_
      simp only [Act.put, List.setIfInBounds_toArray, List.set_cons_zero, List.set_cons_succ]
      refine wpAnyH_take (i := 15) (oi := { dst := some 137, op := Op.load 3 (Operand.tmp 136), type := 3, pos := "law.go:176", after := #[{ on := 14, ground := Ground.data }, { on := 12, ground := Ground.guard }], guard := some (12, true) }) (v := .int .i64 (j : Int)) rfl (by kernel_rfl) (by kernel_rfl) (by kernel_rfl) (fun c a w h => HP.out c a _ _ w h) (Or.inl ⟨by rfl, fun wx h => by have h8 := ThreeC.a h; go_simp⟩) g3 ?_
      simp only [Act.put, List.setIfInBounds_toArray, List.set_cons_zero, List.set_cons_succ]
      refine wpAnyH_ready (rs := [16]) (by kernel_rfl) (by decide) (AllReadyH.cons (o := { dst := some 138, op := Op.call { callee := Callee.value (Operand.func 13), args := #[Operand.tmp 135, Operand.tmp 137, Operand.const (Value.string { data := #[120] })], argTypes := #[27, 3, 9] }, type := 29, pos := "law.go:176", after := #[{ on := 13, ground := Ground.data }, { on := 15, ground := Ground.data }, { on := 12, ground := Ground.chain }, { on := 12, ground := Ground.guard }], guard := some (12, true) }) rfl (fun K hK => ?_) AllReadyH.nil)
      rw [if_pos (by rfl)]
      go_simp
      refine (writep_arg (show Cells b1 a0 b6 _ w11 from HE8.out.pgr.cells) HE8.out.down j hj HU.out ⟨#[120]⟩ (by decide)).mono ?_
      rintro _ w12 ⟨rfl, hw12⟩
      subst w12
      refine hK.out _ _ (g3) (fun g4 => ?_)
      clear hK K
      try simp only [Act.put, List.setIfInBounds_toArray, List.set_cons_zero, List.set_cons_succ]
      refine wpAnyH_ready (rs := [17]) (by kernel_rfl) (by decide) (AllReadyH.cons (o := { dst := some 139, op := Op.call { callee := Callee.value (Operand.func 6), args := #[Operand.tmp 138, Operand.const (Value.int IntKind.i64 1)], argTypes := #[29, 33] }, type := 4, pos := "law.go:176", after := #[{ on := 16, ground := Ground.data }, { on := 16, ground := Ground.chain }, { on := 12, ground := Ground.guard }], guard := some (12, true) }) rfl (fun K hK => ?_) AllReadyH.nil)
      rw [if_pos (by rfl)]
      go_simp
      refine (bare_any _ 1 _ (HE8.out.hg HW.out) (.inr (.inr ⟨rfl, rfl⟩))).mono ?_
      rintro _ w13 ⟨rfl, hb13⟩
      have HE9 : Hid (Env (B11 a0 b1 a2 b9 b10 a5 b6 b7 b8 c9 c10) { x with p := x.p.write j (pageOf c) } { d with F := put d.F j (some (pageOf c)) } (2000 + 2 * (k + 1)) w w13) := HE8.out.step hb13
      have HX9 : Hid (Xrow bx 2 (j : Int) c t w13) := HX8.out.below hb13
      clear hb13
      refine hK.out _ _ (HKx.out _ HX9.out HE9.out.nowCell) (fun g5 => ?_)
      clear hK K
      try simp only [Act.put, List.setIfInBounds_toArray, List.set_cons_zero, List.set_cons_succ]
      refine wpAnyH_take (i := 18) (oi := { dst := some 140, op := Op.unOp UnOp.not 4 (Operand.tmp 139), type := 4, pos := "law.go:176", after := #[{ on := 17, ground := Ground.data }, { on := 12, ground := Ground.guard }], guard := some (12, true) }) (v := .bool false) rfl (by kernel_rfl) (by kernel_rfl) (by kernel_rfl) (fun c a w h => HP.out c a _ _ w h) (Or.inl ⟨by rfl, fun wx _ => by go_simp⟩) g5 ?_
      simp only [Act.put, List.setIfInBounds_toArray, List.set_cons_zero, List.set_cons_succ]
      refine wpAnyH_take (i := 19) (oi := { dst := some 141, op := Op.pick (Operand.tmp 134) (Operand.tmp 140) (Operand.const (Value.bool false)), type := 4, pos := "law.go:176", after := #[{ on := 12, ground := Ground.data }, { on := 18, ground := Ground.data }, { on := 10, ground := Ground.guard }], guard := some (10, false) }) (v := .bool false) rfl (by kernel_rfl) (by kernel_rfl) (by kernel_rfl) (fun c a w h => HP.out c a _ _ w h) (Or.inl ⟨by rfl, fun wx _ => by go_simp⟩) g5 ?_
      simp only [Act.put, List.setIfInBounds_toArray, List.set_cons_zero, List.set_cons_succ]
      refine wpAnyH_take (i := 20) (oi := { dst := some 142, op := Op.pick (Operand.tmp 132) (Operand.const (Value.bool true)) (Operand.tmp 141), type := 4, pos := "law.go:176", after := #[{ on := 10, ground := Ground.data }, { on := 19, ground := Ground.data }], guard := none }) (v := .bool false) rfl (by kernel_rfl) (by kernel_rfl) (by kernel_rfl) (fun c a w h => HP.out c a _ _ w h) (Or.inl ⟨by rfl, fun wx _ => by go_simp⟩) g5 ?_
      simp only [Act.put, List.setIfInBounds_toArray, List.set_cons_zero, List.set_cons_succ]
      refine wpAnyH_done (by kernel_rfl) ?_ _
      clear g0 g1 g2 g3 g4 g5 HE5 HE6 HE7 HE8 HX4 HX5 HX6 HX7 HX8 HX9
      go_wp2_with fail
      exact HQ.out b1 b6 b7 b8 c9 c10 { x with p := x.p.write j (pageOf c) } { d with F := put d.F j (some (pageOf c)) } _ _ _ _ _ _ _ _ _ _ _ _ _ _ _ _ _ _ _ _ _ _ _ _ _ _ _ _ _ _ _ _ _ _ _ _ _ _ _ _ _ _ _ _ _ _ _ _ _ _ _ _ _ _ _ _ _ _ _ _ _ _ _ _ _ _ _ _ _ _ _ _ _ _ _ _ _ _ _ _ _ _ _ _ _ _ _ _ _ _ _ _ _ _ _ _ _ _ _ _ _ _ _ _ _ _ _ _ _ _ _ _ _ _ _ _ _ _ _ _ _ _ _ _ _ _ _ _ _ _ _ _ _ _ _ _ _ _ _ _ _ _ _ _ _ _ _ _ _ _ _ _ _ _ _ _ _ _ _ _ _ _ _ _ _ _ _ _ _ _ _ _ _ hff.out HE9 (HA.out.write hj HU.out _) ((HFw.out.write j _).mono (by omega))
  · as_aux_lemma =>
      obtain rfl : u = false := by rw [← HUse.out, hf]; rfl
      have HCo : Hid (x.p.code a = 2) := hc
      clear hf HUse hc
      go_wp2_with fail
      have HE5 : Hid (Env (B11 a0 b1 a2 b9 b10 a5 b6 b7 b8 c9 c10) x d (2000 + 2 * k) w wx.drew) := HE1.out.drew
      have HX5 : Hid (Xrow bx 2 a c t wx.drew) := HX.out.block rfl
      have HKx : Hid (∀ wq, Xrow bx 2 a c t wq → wq.cell? ⟨a2, 0, none⟩ = some (.map (some b7)) → ThreeC wq bx a2 b7 a c) := fun wq h1 h2 => ⟨h2, h1.a, h1.n⟩
      clear x0
      refine wp_region_held_drew (S := fun wq => ThreeC wq bx a2 b7 a c) (by kernel_rfl) (HKx.out _ HX5.out HE5.out.nowCell) ?_
      intro g0
      refine wpAnyH_take (i := 0) (oi := { dst := some 122, op := Op.move (Operand.tmp 4), type := 27, pos := "law.go:176", after := #[], guard := none }) (v := .pointer (some ⟨b1, 0, none⟩)) rfl (by kernel_rfl) (by kernel_rfl) (by kernel_rfl) (fun c a w h => HP.out c a _ _ w h) (Or.inl ⟨by rfl, fun wx _ => by go_simp⟩) g0 ?_
      simp only [Act.put, List.setIfInBounds_toArray, List.set_cons_zero, List.set_cons_succ]
      refine wpAnyH_take (i := 1) (oi := { dst := some 123, op := Op.fieldAddr 51 (Operand.tmp 14) 1, type := 0, pos := "law.go:176", after := #[], guard := none }) (v := .pointer (some ⟨bx, 1, none⟩)) rfl (by kernel_rfl) (by kernel_rfl) (by kernel_rfl) (fun c a w h => HP.out c a _ _ w h) (Or.inl ⟨by rfl, fun wx _ => by go_simp⟩) g0 ?_
      simp only [Act.put, List.setIfInBounds_toArray, List.set_cons_zero, List.set_cons_succ]
      refine wpAnyH_take (i := 2) (oi := { dst := some 124, op := Op.load 3 (Operand.tmp 123), type := 3, pos := "law.go:176", after := #[{ on := 1, ground := Ground.data }], guard := none }) (v := .int .i64 a) rfl (by kernel_rfl) (by kernel_rfl) (by kernel_rfl) (fun c a w h => HP.out c a _ _ w h) (Or.inl ⟨by rfl, fun wx h => by have h8 := ThreeC.a h; go_simp⟩) g0 ?_
      simp only [Act.put, List.setIfInBounds_toArray, List.set_cons_zero, List.set_cons_succ]
      refine wpAnyH_take (i := 3) (oi := { dst := some 125, op := Op.fieldAddr 51 (Operand.tmp 14) 2, type := 0, pos := "law.go:176", after := #[], guard := none }) (v := .pointer (some ⟨bx, 2, none⟩)) rfl (by kernel_rfl) (by kernel_rfl) (by kernel_rfl) (fun c a w h => HP.out c a _ _ w h) (Or.inl ⟨by rfl, fun wx _ => by go_simp⟩) g0 ?_
      simp only [Act.put, List.setIfInBounds_toArray, List.set_cons_zero, List.set_cons_succ]
      refine wpAnyH_take (i := 4) (oi := { dst := some 126, op := Op.load 3 (Operand.tmp 125), type := 3, pos := "law.go:176", after := #[{ on := 3, ground := Ground.data }], guard := none }) (v := .int .i64 c) rfl (by kernel_rfl) (by kernel_rfl) (by kernel_rfl) (fun c a w h => HP.out c a _ _ w h) (Or.inl ⟨by rfl, fun wx h => by have h8 := ThreeC.n h; go_simp⟩) g0 ?_
      simp only [Act.put, List.setIfInBounds_toArray, List.set_cons_zero, List.set_cons_succ]
      refine wpAnyH_take (i := 7) (oi := { dst := some 129, op := Op.move (Operand.tmp 17), type := 33, pos := "law.go:176", after := #[], guard := none }) (v := .int .i64 2) rfl (by kernel_rfl) (by kernel_rfl) (by kernel_rfl) (fun c a w h => HP.out c a _ _ w h) (Or.inl ⟨by rfl, fun wx _ => by go_simp⟩) g0 ?_
      simp only [Act.put, List.setIfInBounds_toArray, List.set_cons_zero, List.set_cons_succ]
      refine wpAnyH_ready (rs := [5]) (by kernel_rfl) (by decide) (AllReadyH.cons (o := { dst := some 127, op := Op.call { callee := Callee.value (Operand.func 12), args := #[Operand.tmp 126], argTypes := #[3] }, type := 9, pos := "law.go:176", after := #[{ on := 4, ground := Ground.data }], guard := none }) rfl (fun K hK => ?_) AllReadyH.nil)
      rw [if_pos (by rfl)]
      go_simp
      refine (page_any c _).mono ?_
      rintro _ w9 ⟨rfl, hb9⟩
      have HE6 : Hid (Env (B11 a0 b1 a2 b9 b10 a5 b6 b7 b8 c9 c10) x d (2000 + 2 * k) w w9) := HE5.out.step hb9
      have HX6 : Hid (Xrow bx 2 a c t w9) := HX5.out.below hb9
      clear hb9
      refine hK.out _ _ (HKx.out _ HX6.out HE6.out.nowCell) (fun g1 => ?_)
      clear hK K
      try simp only [Act.put, List.setIfInBounds_toArray, List.set_cons_zero, List.set_cons_succ]
      refine wpAnyH_ready (rs := [6]) (by kernel_rfl) (by decide) (AllReadyH.cons (o := { dst := some 128, op := Op.call { callee := Callee.value (Operand.func 13), args := #[Operand.tmp 122, Operand.tmp 124, Operand.tmp 127], argTypes := #[27, 3, 9] }, type := 29, pos := "law.go:176", after := #[{ on := 0, ground := Ground.data }, { on := 2, ground := Ground.data }, { on := 5, ground := Ground.data }, { on := 5, ground := Ground.chain }], guard := none }) rfl (fun K hK => ?_) AllReadyH.nil)
      rw [if_pos (by rfl)]
      go_simp
      refine (writep_no (show Cells b1 a0 b6 _ w9 from HE6.out.pgr.cells) a HCo.out (pageOf c)).mono ?_
      rintro _ w10 ⟨rfl, hw10⟩
      subst w10
      refine hK.out _ _ (g1) (fun g2 => ?_)
      clear hK K
      try simp only [Act.put, List.setIfInBounds_toArray, List.set_cons_zero, List.set_cons_succ]
      refine wpAnyH_ready (rs := [8]) (by kernel_rfl) (by decide) (AllReadyH.cons (o := { dst := some 130, op := Op.call { callee := Callee.value (Operand.func 6), args := #[Operand.tmp 128, Operand.tmp 129], argTypes := #[29, 33] }, type := 4, pos := "law.go:176", after := #[{ on := 6, ground := Ground.data }, { on := 7, ground := Ground.data }, { on := 6, ground := Ground.chain }], guard := none }) rfl (fun K hK => ?_) AllReadyH.nil)
      rw [if_pos (by rfl)]
      go_simp
      refine (bare_any _ 2 _ (HE6.out.hg HW.out) (.inr (.inr ⟨rfl, rfl⟩))).mono ?_
      rintro _ w11 ⟨rfl, hb11⟩
      have HE8 : Hid (Env (B11 a0 b1 a2 b9 b10 a5 b6 b7 b8 c9 c10) x d (2000 + 2 * k) w w11) := HE6.out.step hb11
      have HX8 : Hid (Xrow bx 2 a c t w11) := HX6.out.below hb11
      clear hb11
      refine hK.out _ _ (HKx.out _ HX8.out HE8.out.nowCell) (fun g3 => ?_)
      clear hK K
      try simp only [Act.put, List.setIfInBounds_toArray, List.set_cons_zero, List.set_cons_succ]
      refine wpAnyH_take (i := 9) (oi := { dst := some 131, op := Op.unOp UnOp.not 4 (Operand.tmp 130), type := 4, pos := "law.go:176", after := #[{ on := 8, ground := Ground.data }], guard := none }) (v := .bool false) rfl (by kernel_rfl) (by kernel_rfl) (by kernel_rfl) (fun c a w h => HP.out c a _ _ w h) (Or.inl ⟨by rfl, fun wx _ => by go_simp⟩) g3 ?_
      simp only [Act.put, List.setIfInBounds_toArray, List.set_cons_zero, List.set_cons_succ]
      refine wpAnyH_take (i := 10) (oi := { dst := some 132, op := Op.move (Operand.tmp 131), type := 4, pos := "law.go:176", after := #[{ on := 9, ground := Ground.data }, { on := 8, ground := Ground.chain }], guard := none }) (v := .bool false) rfl (by kernel_rfl) (by kernel_rfl) (by kernel_rfl) (fun c a w h => HP.out c a _ _ w h) (Or.inl ⟨by rfl, fun wx _ => by go_simp⟩) g3 ?_
      simp only [Act.put, List.setIfInBounds_toArray, List.set_cons_zero, List.set_cons_succ]
      refine wpAnyH_take (i := 11) (oi := { dst := some 133, op := Op.move (Operand.tmp 16), type := 4, pos := "law.go:176", after := #[{ on := 10, ground := Ground.guard }], guard := some (10, false) }) (v := .bool false) rfl (by kernel_rfl) (by kernel_rfl) (by kernel_rfl) (fun c a w h => HP.out c a _ _ w h) (Or.inl ⟨by rfl, fun wx _ => by go_simp⟩) g3 ?_
      simp only [Act.put, List.setIfInBounds_toArray, List.set_cons_zero, List.set_cons_succ]
      refine wpAnyH_take (i := 12) (oi := { dst := some 134, op := Op.move (Operand.tmp 133), type := 4, pos := "law.go:176", after := #[{ on := 11, ground := Ground.data }, { on := 10, ground := Ground.chain }, { on := 10, ground := Ground.guard }], guard := some (10, false) }) (v := .bool false) rfl (by kernel_rfl) (by kernel_rfl) (by kernel_rfl) (fun c a w h => HP.out c a _ _ w h) (Or.inl ⟨by rfl, fun wx _ => by go_simp⟩) g3 ?_
      simp only [Act.put, List.setIfInBounds_toArray, List.set_cons_zero, List.set_cons_succ]
      refine wpAnyH_take (i := 13) (oi := { dst := some 135, op := Op.move (Operand.tmp 4), type := 27, pos := "law.go:176", after := #[{ on := 12, ground := Ground.guard }], guard := some (12, true) }) (v := undef) rfl (by kernel_rfl) (by kernel_rfl) (by kernel_rfl) (fun c a w h => HP.out c a _ _ w h) (Or.inr ⟨by rfl, rfl⟩) g3 ?_
      simp only [Act.put, List.setIfInBounds_toArray, List.set_cons_zero, List.set_cons_succ]
      refine wpAnyH_take (i := 14) (oi := { dst := some 136, op := Op.fieldAddr 51 (Operand.tmp 14) 1, type := 0, pos := "law.go:176", after := #[{ on := 12, ground := Ground.guard }], guard := some (12, true) }) (v := undef) rfl (by kernel_rfl) (by kernel_rfl) (by kernel_rfl) (fun c a w h => HP.out c a _ _ w h) (Or.inr ⟨by rfl, rfl⟩) g3 ?_
      simp only [Act.put, List.setIfInBounds_toArray, List.set_cons_zero, List.set_cons_succ]
      refine wpAnyH_take (i := 15) (oi := { dst := some 137, op := Op.load 3 (Operand.tmp 136), type := 3, pos := "law.go:176", after := #[{ on := 14, ground := Ground.data }, { on := 12, ground := Ground.guard }], guard := some (12, true) }) (v := undef) rfl (by kernel_rfl) (by kernel_rfl) (by kernel_rfl) (fun c a w h => HP.out c a _ _ w h) (Or.inr ⟨by rfl, rfl⟩) g3 ?_
      simp only [Act.put, List.setIfInBounds_toArray, List.set_cons_zero, List.set_cons_succ]
      refine wpAnyH_take (i := 16) (oi := { dst := some 138, op := Op.call { callee := Callee.value (Operand.func 13), args := #[Operand.tmp 135, Operand.tmp 137, Operand.const (Value.string { data := #[120] })], argTypes := #[27, 3, 9] }, type := 29, pos := "law.go:176", after := #[{ on := 13, ground := Ground.data }, { on := 15, ground := Ground.data }, { on := 12, ground := Ground.chain }, { on := 12, ground := Ground.guard }], guard := some (12, true) }) (v := undef) rfl (by kernel_rfl) (by kernel_rfl) (by kernel_rfl) (fun c a w h => HP.out c a _ _ w h) (Or.inr ⟨by rfl, rfl⟩) g3 ?_
      simp only [Act.put, List.setIfInBounds_toArray, List.set_cons_zero, List.set_cons_succ]
      refine wpAnyH_take (i := 17) (oi := { dst := some 139, op := Op.call { callee := Callee.value (Operand.func 6), args := #[Operand.tmp 138, Operand.const (Value.int IntKind.i64 1)], argTypes := #[29, 33] }, type := 4, pos := "law.go:176", after := #[{ on := 16, ground := Ground.data }, { on := 16, ground := Ground.chain }, { on := 12, ground := Ground.guard }], guard := some (12, true) }) (v := undef) rfl (by kernel_rfl) (by kernel_rfl) (by kernel_rfl) (fun c a w h => HP.out c a _ _ w h) (Or.inr ⟨by rfl, rfl⟩) g3 ?_
      simp only [Act.put, List.setIfInBounds_toArray, List.set_cons_zero, List.set_cons_succ]
      refine wpAnyH_take (i := 18) (oi := { dst := some 140, op := Op.unOp UnOp.not 4 (Operand.tmp 139), type := 4, pos := "law.go:176", after := #[{ on := 17, ground := Ground.data }, { on := 12, ground := Ground.guard }], guard := some (12, true) }) (v := undef) rfl (by kernel_rfl) (by kernel_rfl) (by kernel_rfl) (fun c a w h => HP.out c a _ _ w h) (Or.inr ⟨by rfl, rfl⟩) g3 ?_
      simp only [Act.put, List.setIfInBounds_toArray, List.set_cons_zero, List.set_cons_succ]
      refine wpAnyH_take (i := 19) (oi := { dst := some 141, op := Op.pick (Operand.tmp 134) (Operand.tmp 140) (Operand.const (Value.bool false)), type := 4, pos := "law.go:176", after := #[{ on := 12, ground := Ground.data }, { on := 18, ground := Ground.data }, { on := 10, ground := Ground.guard }], guard := some (10, false) }) (v := .bool false) rfl (by kernel_rfl) (by kernel_rfl) (by kernel_rfl) (fun c a w h => HP.out c a _ _ w h) (Or.inl ⟨by rfl, fun wx _ => by go_simp⟩) g3 ?_
      simp only [Act.put, List.setIfInBounds_toArray, List.set_cons_zero, List.set_cons_succ]
      refine wpAnyH_take (i := 20) (oi := { dst := some 142, op := Op.pick (Operand.tmp 132) (Operand.const (Value.bool true)) (Operand.tmp 141), type := 4, pos := "law.go:176", after := #[{ on := 10, ground := Ground.data }, { on := 19, ground := Ground.data }], guard := none }) (v := .bool false) rfl (by kernel_rfl) (by kernel_rfl) (by kernel_rfl) (fun c a w h => HP.out c a _ _ w h) (Or.inl ⟨by rfl, fun wx _ => by go_simp⟩) g3 ?_
      simp only [Act.put, List.setIfInBounds_toArray, List.set_cons_zero, List.set_cons_succ]
      refine wpAnyH_done (by kernel_rfl) ?_ _
      clear g0 g1 g2 g3 HE5 HE6 HX5 HX6 HX8
      go_wp2_with fail
      exact HQ.out b1 b6 b7 b8 c9 c10 x d _ _ _ _ _ _ _ _ _ _ _ _ _ _ _ _ _ _ _ _ _ _ _ _ _ _ _ _ _ _ _ _ _ _ _ _ _ _ _ _ _ _ _ _ _ _ _ _ _ _ _ _ _ _ _ _ _ _ _ _ _ _ _ _ _ _ _ _ _ _ _ _ _ _ _ _ _ _ _ _ _ _ _ _ _ _ _ _ _ _ _ _ _ _ _ _ _ _ _ _ _ _ _ _ _ _ _ _ _ _ _ _ _ _ _ _ _ _ _ _ _ _ _ _ _ _ _ _ _ _ _ _ _ _ _ _ _ _ _ _ _ _ _ _ _ _ _ _ _ _ _ _ _ _ _ _ _ _ _ _ _ _ _ _ _ _ _ _ _ _ _ _ _ hff.out (HE8.out.mono (by omega)) HA (HFw.out.mono (by omega))
end Go.Proofs.YtjnjjpdgifnnpaaGreatDoor
