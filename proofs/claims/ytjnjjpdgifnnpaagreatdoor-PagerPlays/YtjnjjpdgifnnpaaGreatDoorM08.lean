/- Texts of the proof of PagerPlays: Pc4, Pc5, Pc6, Pc7, Pc8, Pc9. -/
import Derived.Test.YtjnjjpdgifnnpaaGreatDoorM07
import Derived.Deep.DeepCutAuto
import Derived.Deep.CutBlock
import Derived.BigQuiet
namespace Go.Proofs.YtjnjjpdgifnnpaaGreatDoor
open Go.RowKit Go.Maps
set_option maxRecDepth 100000 in
set_option maxHeartbeats 20000000 in
theorem case4 {Q : Exit → Act → World → Prop} {v0 v1 v2 v5 v6 v7 v13 v15 v18 v19 v20 v21 v22 v23 v24 v25 v26 v27 v28 v29 v30 v31 v32 v33 v34 v35 v36 v37 v38 v39 v40 v41 v42 v43 v44 v45 v46 v47 v48 v49 v50 v51 v52 v53 v54 v55 v56 v57 v58 v59 v60 v61 v62 v63 v64 v65 v66 v67 v68 v69 v70 v71 v72 v73 v74 v75 v76 v77 v78 v79 v80 v81 v82 v84 v85 v86 v87 v88 v89 v90 v91 v92 v93 v94 v95 v96 v97 v98 v99 v100 v101 v102 v103 v104 v105 v106 v107 v108 v109 v110 v111 v112 v113 v114 v115 v116 v117 v118 v119 v120 v121 v122 v123 v124 v125 v126 v127 v128 v129 v130 v131 v132 v133 v134 v135 v136 v137 v138 v139 v140 v141 v142 v143 v144 v145 v146 v147 v148 v149 v150 v151 v152 v153 v154 v155 v156 v157 v158 v159 v160 v161 v162 v163 v164 v165 v166 v167 v168 v169 v170 v171 v172 v173 v174 v175 v176 v177 v178 v179 v180 v181 v182 v183 v184 v185 v186 v187 v188 v189 v190 v191 v192 v193 v194 v195 v196 v197 v198 v199 v200 v201 v202 v203 v204 v205 v206 v207 v208 v209 v210 v211 v212 v213 v214 v215 v216 v217 v218 v219 v220 v221 v222 v223 v224 v225 v226 v227 v228 v229 v230 v231 v232 v233 v234 v235 v236 v237 v238 v239 v240 v241 v242 v243 v244 v245 v246 v247 v248 v249 v250 v251 v252 v253 v254 v255 v256 v257 v258 v259 v260 v261 v262 v263 v264 v265 v266 v267 v268 v269 v270 v271 v272 v273 v274 v275 v276 v277 v278 v279 v280 v281 v282 v283 v284 v285 v286 v287 v288 v289 v290 v291 v292 v293 v294 v295 v296 v297 v298 v299 v300 v301 v302 v303 v304 v305 v306 v307 v308 v309 v310 v311 v312 v313 v314 v315 v316 v317 v318 v319 v320 v321 v322 v323 v324 v325 v326 v327 v328 v329 v330 v331 : Value} {a0 b1 a2 b9 b10 a5 b6 b7 b8 c9 c10 bx k : Nat} {x : Ps} {d : Dc} {a c t : Int} {u f : Bool} {w wx : World}
    (hk50 : k < 50) (HW : Hid (HG w)) (HE1 : Hid (Env (B11 a0 b1 a2 b9 b10 a5 b6 b7 b8 c9 c10) x d (2000 + 2 * k) w wx)) (HX : Hid (Xrow bx 4 a c t wx)) (HBx : Hid (∀ i, i < 11 → B11 a0 b1 a2 b9 b10 a5 b6 b7 b8 c9 c10 i < bx)) (HA : Hid (Alike x d)) (HFw : Hid (Few k x)) (HUse : Hid ((fi d.F a).isSome = u)) (hff : Hid (f = x.fresh)) (hP : ∀ (c : List PanicEntry) (a : Act) (d : Option Tmp) (v : Value) (w : World), Q (.panic c) (a.put d v) w → Q (.panic c) a w)
    (hQ : ∀ (e1 e6 e7 e8 e9 e10 : Nat) (x : Ps) (d : Dc) (wz : World) (g : Bool) (y2 y5 y17 y18 y19 y84 y85 y86 y87 y88 y89 y90 y91 y92 y93 y94 y95 y96 y97 y98 y99 y100 y101 y102 y103 y104 y105 y106 y107 y108 y109 y110 y111 y112 y113 y114 y115 y116 y117 y118 y119 y120 y121 y122 y123 y124 y125 y126 y127 y128 y129 y130 y131 y132 y133 y134 y135 y136 y137 y138 y139 y140 y141 y142 y143 y144 y145 y146 y147 y148 y149 y150 y151 y152 y153 y154 y155 y156 y157 y158 y159 y160 y161 y162 y163 y164 y165 y166 y167 y168 y169 y170 y171 y172 y173 y174 y175 y176 y177 y178 y179 y180 y181 y182 y183 y184 y185 y186 y187 y188 y189 y190 y191 y192 y193 y194 y195 y196 y197 y198 y199 y200 y201 y202 y203 y204 y205 y206 y207 y208 y209 y210 y211 y212 y213 y214 y215 y216 y217 y218 y219 y220 y221 y222 y223 y224 y225 y226 y227 y228 y229 y230 y231 y232 y233 y234 y235 y236 y237 y238 y239 y240 y241 y242 y243 y244 y245 y246 y247 y248 y249 : Value), g = x.fresh → Hid (Env (B11 a0 e1 a2 b9 b10 a5 e6 e7 e8 e9 e10) x d (2000 + 2 * (k + 1)) w wz) → Hid (Alike x d) → Hid (Few (k + 1) x) → Q .normal { tmps := #[v0, v1, y2, .pointer (some ⟨a0, 0, none⟩), .pointer (some ⟨e1, 0, none⟩), y5, v6, v7, .pointer (some ⟨a2, 0, none⟩), .pointer (some ⟨b9, 0, none⟩), .pointer (some ⟨b10, 0, none⟩), .pointer (some ⟨a5, 0, none⟩), .bool g, v13, .pointer (some ⟨bx, 0, none⟩), v15, .bool u, y17, y18, y19, v20, v21, v22, v23, v24, v25, v26, v27, v28, v29, v30, v31, v32, v33, v34, v35, v36, v37, v38, v39, v40, v41, v42, v43, v44, v45, v46, v47, v48, v49, v50, v51, v52, v53, v54, v55, v56, v57, v58, v59, v60, v61, v62, v63, v64, v65, v66, v67, v68, v69, v70, v71, v72, v73, v74, v75, v76, v77, v78, v79, v80, v81, v82, .int .i64 4, y84, y85, y86, y87, y88, y89, y90, y91, y92, y93, y94, y95, y96, y97, y98, y99, y100, y101, y102, y103, y104, y105, y106, y107, y108, y109, y110, y111, y112, y113, y114, y115, y116, y117, y118, y119, y120, y121, y122, y123, y124, y125, y126, y127, y128, y129, y130, y131, y132, y133, y134, y135, y136, y137, y138, y139, y140, y141, y142, y143, y144, y145, y146, y147, y148, y149, y150, y151, y152, y153, y154, y155, y156, y157, y158, y159, y160, y161, y162, y163, y164, y165, y166, y167, y168, y169, y170, y171, y172, y173, y174, y175, y176, y177, y178, y179, y180, y181, y182, y183, y184, y185, y186, y187, y188, y189, y190, y191, y192, y193, y194, y195, y196, y197, y198, y199, y200, y201, y202, y203, y204, y205, y206, y207, y208, y209, y210, y211, y212, y213, y214, y215, y216, y217, y218, y219, y220, y221, y222, y223, y224, y225, y226, y227, y228, y229, y230, y231, y232, y233, y234, y235, y236, y237, y238, y239, y240, y241, y242, y243, y244, y245, y246, y247, y248, y249, v250, v251, v252, v253, v254, v255, v256, v257, v258, v259, v260, v261, v262, v263, v264, v265, v266, v267, v268, v269, v270, v271, v272, v273, v274, v275, v276, v277, v278, v279, v280, v281, v282, v283, v284, v285, v286, v287, v288, v289, v290, v291, v292, v293, v294, v295, v296, v297, v298, v299, v300, v301, v302, v303, v304, v305, v306, v307, v308, v309, v310, v311, v312, v313, v314, v315, v316, v317, v318, v319, v320, v321, v322, v323, v324, v325, v326, v327, v328, v329, v330, v331], defers := [] } wz) :
    Code.wp Tryz.prog swCode Q { tmps := #[v0, v1, v2, .pointer (some ⟨a0, 0, none⟩), .pointer (some ⟨b1, 0, none⟩), v5, v6, v7, .pointer (some ⟨a2, 0, none⟩), .pointer (some ⟨b9, 0, none⟩), .pointer (some ⟨b10, 0, none⟩), .pointer (some ⟨a5, 0, none⟩), .bool f, v13, .pointer (some ⟨bx, 0, none⟩), v15, .bool u, .int .i64 2, v18, v19, v20, v21, v22, v23, v24, v25, v26, v27, v28, v29, v30, v31, v32, v33, v34, v35, v36, v37, v38, v39, v40, v41, v42, v43, v44, v45, v46, v47, v48, v49, v50, v51, v52, v53, v54, v55, v56, v57, v58, v59, v60, v61, v62, v63, v64, v65, v66, v67, v68, v69, v70, v71, v72, v73, v74, v75, v76, v77, v78, v79, v80, v81, v82, .int .i64 4, v84, v85, v86, v87, v88, v89, v90, v91, v92, v93, v94, v95, v96, v97, v98, v99, v100, v101, v102, v103, v104, v105, v106, v107, v108, v109, v110, v111, v112, v113, v114, v115, v116, v117, v118, v119, v120, v121, v122, v123, v124, v125, v126, v127, v128, v129, v130, v131, v132, v133, v134, v135, v136, v137, v138, v139, v140, v141, v142, v143, v144, v145, v146, v147, v148, v149, v150, v151, v152, v153, v154, v155, v156, v157, v158, v159, v160, v161, v162, v163, v164, v165, v166, v167, v168, v169, v170, v171, v172, v173, v174, v175, v176, v177, v178, v179, v180, v181, v182, v183, v184, v185, v186, v187, v188, v189, v190, v191, v192, v193, v194, v195, v196, v197, v198, v199, v200, v201, v202, v203, v204, v205, v206, v207, v208, v209, v210, v211, v212, v213, v214, v215, v216, v217, v218, v219, v220, v221, v222, v223, v224, v225, v226, v227, v228, v229, v230, v231, v232, v233, v234, v235, v236, v237, v238, v239, v240, v241, v242, v243, v244, v245, v246, v247, v248, v249, v250, v251, v252, v253, v254, v255, v256, v257, v258, v259, v260, v261, v262, v263, v264, v265, v266, v267, v268, v269, v270, v271, v272, v273, v274, v275, v276, v277, v278, v279, v280, v281, v282, v283, v284, v285, v286, v287, v288, v289, v290, v291, v292, v293, v294, v295, v296, v297, v298, v299, v300, v301, v302, v303, v304, v305, v306, v307, v308, v309, v310, v311, v312, v313, v314, v315, v316, v317, v318, v319, v320, v321, v322, v323, v324, v325, v326, v327, v328, v329, v330, v331], defers := [] } wx := by
  have HQ : Hid _ := hQ
  have HP : Hid _ := hP
  clear hQ hP
  have _u1 := HW
  have _u2 := HBx
  have _u3 := HUse
  have _u4 := hff
  have _u5 := HP
  have _u6 := hk50
  have x0 := HX.out.q
  unfold swCode
  go_wp2_with fail
  refine (commit_any HE1.out.pgr HE1.out.prg HE1.out.sok HE1.out.ok HE1.out.down ⟨by have := HE1.out.com.1; omega, by have := HE1.out.com.2; omega⟩).mono ?_
  rintro e7 w7 ⟨s', hD7, hs7, he7, hO7, hR7⟩
  rcases hR7 with ⟨rfl, hP7, hDn⟩ | ⟨_, _, hse, _⟩
  · have HE2 : Hid (Env (B11 a0 b1 a2 b9 b10 a5 b6 b7 b8 c9 c10) { x with p := x.p.done, s := s', fresh := false } d (2000 + 2 * (k + 1)) w w7) := (HE1.out.mono (by omega)).commit (by have := HE1.out.com.2; omega) hD7 hs7 he7 hO7 (hP7.mono (by omega)) hDn
    have HDn : Hid (Done x.p x.s.pg s'.pg) := hDn
    clear hD7 hs7 he7 hO7 hP7 hDn x0
    obtain ⟨K8, hK8⟩ : ∃ L, pagesL b7 d.ra d.rb = L := ⟨_, rfl⟩
    obtain ⟨sK8, _, _, _⟩ := pg_facts hK8
    have HR8 : Hid (w7.rangeAt a2 0 K8) := by rw [Hid, ← hK8]; exact HE2.out.nowR
    go_wp2_with (refine wpList_load_mid rfl 38 _ rfl a2 0 rfl K8 _ HR8.out Tryz.underlying38 rfl sK8 ?_)
    have hc8 := copy_any (show Texts b7 _ _ w7 from HE2.out.now) d.ra d.rb
    rw [hK8] at hc8
    refine hc8.mono ?_
    rintro _ w8 ⟨m8, rfl, hm8, hT8, hb8⟩
    obtain ⟨L8, hL8⟩ : ∃ L, pagesL m8 d.ra d.rb = L := ⟨_, rfl⟩
    obtain ⟨_, sL8, oL8, lL8⟩ := pg_facts hL8
    have HT8 : Hid (w8.there b9 0 L8.toArray.size) := (HE2.out.step hb8).savS.there (by rw [List.size_toArray, lL8])
    have HE8 : Hid (Env (B11 a0 b1 a2 b9 b10 a5 b6 b7 m8 c9 c10) { x with p := x.p.done, s := s', fresh := false } { d with G := d.F, sa := d.ra, sb := d.rb } (2000 + 2 * (k + 1)) w (w8.setCells b9 0 L8)) := by
      have h9 := (HE2.out.step hb8).setSaved (HE2.out.new hm8).1 (HE2.out.new hm8).2 (hT8.mono (by omega)) L8 hL8.symm
      rw [upB8] at h9
      exact h9
    rw [hL8]
    clear hc8 hT8 hm8 hb8 hK8 sK8 HR8 lL8 hL8
    go_wp2_with (refine wpList_store_mid rfl 38 _ _ rfl b9 0 L8.toArray rfl rfl HT8.out sL8 oL8 ?_)
    clear HT8
    exact HQ.out b1 b6 b7 m8 c9 c10 { x with p := x.p.done, s := s', fresh := false } { d with G := d.F, sa := d.ra, sb := d.rb } _ _ _ _ _ _ _ _ _ _ _ _ _ _ _ _ _ _ _ _ _ _ _ _ _ _ _ _ _ _ _ _ _ _ _ _ _ _ _ _ _ _ _ _ _ _ _ _ _ _ _ _ _ _ _ _ _ _ _ _ _ _ _ _ _ _ _ _ _ _ _ _ _ _ _ _ _ _ _ _ _ _ _ _ _ _ _ _ _ _ _ _ _ _ _ _ _ _ _ _ _ _ _ _ _ _ _ _ _ _ _ _ _ _ _ _ _ _ _ _ _ _ _ _ _ _ _ _ _ _ _ _ _ _ _ _ _ _ _ _ _ _ _ _ _ _ _ _ _ _ _ _ _ _ _ _ _ _ _ _ _ _ _ _ _ _ _ _ _ _ _ _ _ rfl HE8 (HA.out.commit HDn.out HE1.out.ok) ((HFw.out.commit HDn.out HE1.out.ok).mono (by omega))
  · exact absurd hse (by rw [HE1.out.ends]; decide)
end Go.Proofs.YtjnjjpdgifnnpaaGreatDoor
namespace Go.Proofs.YtjnjjpdgifnnpaaGreatDoor
open Go.RowKit Go.Maps
set_option maxRecDepth 100000 in
set_option maxHeartbeats 20000000 in
theorem case5 {Q : Exit → Act → World → Prop} {v0 v1 v2 v5 v6 v7 v13 v15 v18 v19 v20 v21 v22 v23 v24 v25 v26 v27 v28 v29 v30 v31 v32 v33 v34 v35 v36 v37 v38 v39 v40 v41 v42 v43 v44 v45 v46 v47 v48 v49 v50 v51 v52 v53 v54 v55 v56 v57 v58 v59 v60 v61 v62 v63 v64 v65 v66 v67 v68 v69 v70 v71 v72 v73 v74 v75 v76 v77 v78 v79 v80 v81 v82 v84 v85 v86 v87 v88 v89 v90 v91 v92 v93 v94 v95 v96 v97 v98 v99 v100 v101 v102 v103 v104 v105 v106 v107 v108 v109 v110 v111 v112 v113 v114 v115 v116 v117 v118 v119 v120 v121 v122 v123 v124 v125 v126 v127 v128 v129 v130 v131 v132 v133 v134 v135 v136 v137 v138 v139 v140 v141 v142 v143 v144 v145 v146 v147 v148 v149 v150 v151 v152 v153 v154 v155 v156 v157 v158 v159 v160 v161 v162 v163 v164 v165 v166 v167 v168 v169 v170 v171 v172 v173 v174 v175 v176 v177 v178 v179 v180 v181 v182 v183 v184 v185 v186 v187 v188 v189 v190 v191 v192 v193 v194 v195 v196 v197 v198 v199 v200 v201 v202 v203 v204 v205 v206 v207 v208 v209 v210 v211 v212 v213 v214 v215 v216 v217 v218 v219 v220 v221 v222 v223 v224 v225 v226 v227 v228 v229 v230 v231 v232 v233 v234 v235 v236 v237 v238 v239 v240 v241 v242 v243 v244 v245 v246 v247 v248 v249 v250 v251 v252 v253 v254 v255 v256 v257 v258 v259 v260 v261 v262 v263 v264 v265 v266 v267 v268 v269 v270 v271 v272 v273 v274 v275 v276 v277 v278 v279 v280 v281 v282 v283 v284 v285 v286 v287 v288 v289 v290 v291 v292 v293 v294 v295 v296 v297 v298 v299 v300 v301 v302 v303 v304 v305 v306 v307 v308 v309 v310 v311 v312 v313 v314 v315 v316 v317 v318 v319 v320 v321 v322 v323 v324 v325 v326 v327 v328 v329 v330 v331 : Value} {a0 b1 a2 b9 b10 a5 b6 b7 b8 c9 c10 bx k : Nat} {x : Ps} {d : Dc} {a c t : Int} {u f : Bool} {w wx : World}
    (hk50 : k < 50) (HW : Hid (HG w)) (HE1 : Hid (Env (B11 a0 b1 a2 b9 b10 a5 b6 b7 b8 c9 c10) x d (2000 + 2 * k) w wx)) (HX : Hid (Xrow bx 5 a c t wx)) (HBx : Hid (∀ i, i < 11 → B11 a0 b1 a2 b9 b10 a5 b6 b7 b8 c9 c10 i < bx)) (HA : Hid (Alike x d)) (HFw : Hid (Few k x)) (HUse : Hid ((fi d.F a).isSome = u)) (hff : Hid (f = x.fresh)) (hP : ∀ (c : List PanicEntry) (a : Act) (d : Option Tmp) (v : Value) (w : World), Q (.panic c) (a.put d v) w → Q (.panic c) a w)
    (hQ : ∀ (e1 e6 e7 e8 e9 e10 : Nat) (x : Ps) (d : Dc) (wz : World) (g : Bool) (y2 y5 y17 y18 y19 y84 y85 y86 y87 y88 y89 y90 y91 y92 y93 y94 y95 y96 y97 y98 y99 y100 y101 y102 y103 y104 y105 y106 y107 y108 y109 y110 y111 y112 y113 y114 y115 y116 y117 y118 y119 y120 y121 y122 y123 y124 y125 y126 y127 y128 y129 y130 y131 y132 y133 y134 y135 y136 y137 y138 y139 y140 y141 y142 y143 y144 y145 y146 y147 y148 y149 y150 y151 y152 y153 y154 y155 y156 y157 y158 y159 y160 y161 y162 y163 y164 y165 y166 y167 y168 y169 y170 y171 y172 y173 y174 y175 y176 y177 y178 y179 y180 y181 y182 y183 y184 y185 y186 y187 y188 y189 y190 y191 y192 y193 y194 y195 y196 y197 y198 y199 y200 y201 y202 y203 y204 y205 y206 y207 y208 y209 y210 y211 y212 y213 y214 y215 y216 y217 y218 y219 y220 y221 y222 y223 y224 y225 y226 y227 y228 y229 y230 y231 y232 y233 y234 y235 y236 y237 y238 y239 y240 y241 y242 y243 y244 y245 y246 y247 y248 y249 : Value), g = x.fresh → Hid (Env (B11 a0 e1 a2 b9 b10 a5 e6 e7 e8 e9 e10) x d (2000 + 2 * (k + 1)) w wz) → Hid (Alike x d) → Hid (Few (k + 1) x) → Q .normal { tmps := #[v0, v1, y2, .pointer (some ⟨a0, 0, none⟩), .pointer (some ⟨e1, 0, none⟩), y5, v6, v7, .pointer (some ⟨a2, 0, none⟩), .pointer (some ⟨b9, 0, none⟩), .pointer (some ⟨b10, 0, none⟩), .pointer (some ⟨a5, 0, none⟩), .bool g, v13, .pointer (some ⟨bx, 0, none⟩), v15, .bool u, y17, y18, y19, v20, v21, v22, v23, v24, v25, v26, v27, v28, v29, v30, v31, v32, v33, v34, v35, v36, v37, v38, v39, v40, v41, v42, v43, v44, v45, v46, v47, v48, v49, v50, v51, v52, v53, v54, v55, v56, v57, v58, v59, v60, v61, v62, v63, v64, v65, v66, v67, v68, v69, v70, v71, v72, v73, v74, v75, v76, v77, v78, v79, v80, v81, v82, .int .i64 5, y84, y85, y86, y87, y88, y89, y90, y91, y92, y93, y94, y95, y96, y97, y98, y99, y100, y101, y102, y103, y104, y105, y106, y107, y108, y109, y110, y111, y112, y113, y114, y115, y116, y117, y118, y119, y120, y121, y122, y123, y124, y125, y126, y127, y128, y129, y130, y131, y132, y133, y134, y135, y136, y137, y138, y139, y140, y141, y142, y143, y144, y145, y146, y147, y148, y149, y150, y151, y152, y153, y154, y155, y156, y157, y158, y159, y160, y161, y162, y163, y164, y165, y166, y167, y168, y169, y170, y171, y172, y173, y174, y175, y176, y177, y178, y179, y180, y181, y182, y183, y184, y185, y186, y187, y188, y189, y190, y191, y192, y193, y194, y195, y196, y197, y198, y199, y200, y201, y202, y203, y204, y205, y206, y207, y208, y209, y210, y211, y212, y213, y214, y215, y216, y217, y218, y219, y220, y221, y222, y223, y224, y225, y226, y227, y228, y229, y230, y231, y232, y233, y234, y235, y236, y237, y238, y239, y240, y241, y242, y243, y244, y245, y246, y247, y248, y249, v250, v251, v252, v253, v254, v255, v256, v257, v258, v259, v260, v261, v262, v263, v264, v265, v266, v267, v268, v269, v270, v271, v272, v273, v274, v275, v276, v277, v278, v279, v280, v281, v282, v283, v284, v285, v286, v287, v288, v289, v290, v291, v292, v293, v294, v295, v296, v297, v298, v299, v300, v301, v302, v303, v304, v305, v306, v307, v308, v309, v310, v311, v312, v313, v314, v315, v316, v317, v318, v319, v320, v321, v322, v323, v324, v325, v326, v327, v328, v329, v330, v331], defers := [] } wz) :
    Code.wp Tryz.prog swCode Q { tmps := #[v0, v1, v2, .pointer (some ⟨a0, 0, none⟩), .pointer (some ⟨b1, 0, none⟩), v5, v6, v7, .pointer (some ⟨a2, 0, none⟩), .pointer (some ⟨b9, 0, none⟩), .pointer (some ⟨b10, 0, none⟩), .pointer (some ⟨a5, 0, none⟩), .bool f, v13, .pointer (some ⟨bx, 0, none⟩), v15, .bool u, .int .i64 2, v18, v19, v20, v21, v22, v23, v24, v25, v26, v27, v28, v29, v30, v31, v32, v33, v34, v35, v36, v37, v38, v39, v40, v41, v42, v43, v44, v45, v46, v47, v48, v49, v50, v51, v52, v53, v54, v55, v56, v57, v58, v59, v60, v61, v62, v63, v64, v65, v66, v67, v68, v69, v70, v71, v72, v73, v74, v75, v76, v77, v78, v79, v80, v81, v82, .int .i64 5, v84, v85, v86, v87, v88, v89, v90, v91, v92, v93, v94, v95, v96, v97, v98, v99, v100, v101, v102, v103, v104, v105, v106, v107, v108, v109, v110, v111, v112, v113, v114, v115, v116, v117, v118, v119, v120, v121, v122, v123, v124, v125, v126, v127, v128, v129, v130, v131, v132, v133, v134, v135, v136, v137, v138, v139, v140, v141, v142, v143, v144, v145, v146, v147, v148, v149, v150, v151, v152, v153, v154, v155, v156, v157, v158, v159, v160, v161, v162, v163, v164, v165, v166, v167, v168, v169, v170, v171, v172, v173, v174, v175, v176, v177, v178, v179, v180, v181, v182, v183, v184, v185, v186, v187, v188, v189, v190, v191, v192, v193, v194, v195, v196, v197, v198, v199, v200, v201, v202, v203, v204, v205, v206, v207, v208, v209, v210, v211, v212, v213, v214, v215, v216, v217, v218, v219, v220, v221, v222, v223, v224, v225, v226, v227, v228, v229, v230, v231, v232, v233, v234, v235, v236, v237, v238, v239, v240, v241, v242, v243, v244, v245, v246, v247, v248, v249, v250, v251, v252, v253, v254, v255, v256, v257, v258, v259, v260, v261, v262, v263, v264, v265, v266, v267, v268, v269, v270, v271, v272, v273, v274, v275, v276, v277, v278, v279, v280, v281, v282, v283, v284, v285, v286, v287, v288, v289, v290, v291, v292, v293, v294, v295, v296, v297, v298, v299, v300, v301, v302, v303, v304, v305, v306, v307, v308, v309, v310, v311, v312, v313, v314, v315, v316, v317, v318, v319, v320, v321, v322, v323, v324, v325, v326, v327, v328, v329, v330, v331], defers := [] } wx := by
  have HQ : Hid _ := hQ
  have HP : Hid _ := hP
  clear hQ hP
  have _u1 := HW
  have _u2 := HBx
  have _u3 := HUse
  have _u4 := hff
  have _u5 := HP
  have _u6 := hk50
  have x0 := HX.out.q
  unfold swCode
  go_wp2_with fail
  refine (rollback_any (show PagerIs b1 a0 b6 _ x.p wx from HE1.out.pgr) (show Prg a0 x.s wx from HE1.out.prg) HE1.out.down).mono ?_
  rintro _ w7 ⟨rfl, ⟨bm7, hbm7, hP7⟩, hD7, hO7⟩
  have HE2 : Hid (Env (B11 a0 b1 a2 b9 b10 a5 bm7 b7 b8 c9 c10) { x with p := loaded x.s.pg x.p.commits false } d (2000 + 2 * (k + 1)) w w7) := by
    have h9 := (HE1.out.mono (show 2000 + 2 * k ≤ 2000 + 2 * (k + 1) by omega)).rolled hbm7 hP7 hO7
    rw [upB6] at h9
    exact h9
  have HL : Hid (Lies x.p x.s.pg) := HE1.out.lies
  clear hbm7 hP7 hD7 hO7 x0
  obtain ⟨K8, hK8⟩ : ∃ L, pagesL b8 d.sa d.sb = L := ⟨_, rfl⟩
  obtain ⟨sK8, _, _, _⟩ := pg_facts hK8
  have HR8 : Hid (w7.rangeAt b9 0 K8) := by rw [Hid, ← hK8]; exact HE2.out.savR
  go_wp2_with (refine wpList_load_mid rfl 38 _ rfl b9 0 rfl K8 _ HR8.out Tryz.underlying38 rfl sK8 ?_)
  have hc8 := copy_any (show Texts b8 _ _ w7 from HE2.out.sav) d.sa d.sb
  rw [hK8] at hc8
  refine hc8.mono ?_
  rintro _ w8 ⟨m8, rfl, hm8, hT8, hb8⟩
  obtain ⟨L8, hL8⟩ : ∃ L, pagesL m8 d.sa d.sb = L := ⟨_, rfl⟩
  obtain ⟨_, sL8, oL8, lL8⟩ := pg_facts hL8
  have HT8 : Hid (w8.there a2 0 L8.toArray.size) := (HE2.out.step hb8).nowS.there (by rw [List.size_toArray, lL8])
  have HE8 : Hid (Env (B11 a0 b1 a2 b9 b10 a5 bm7 m8 b8 c9 c10) { x with p := loaded x.s.pg x.p.commits false } { d with F := d.G, ra := d.sa, rb := d.sb } (2000 + 2 * (k + 1)) w (w8.setCells a2 0 L8)) := by
    have h9 := (HE2.out.step hb8).setNow (HE2.out.new hm8).1 (HE2.out.new hm8).2 (hT8.mono (by omega)) L8 hL8.symm
    rw [upB7] at h9
    exact h9
  rw [hL8]
  clear hc8 hT8 hm8 hb8 hK8 sK8 HR8 lL8 hL8
  go_wp2_with (refine wpList_store_mid rfl 38 _ _ rfl a2 0 L8.toArray rfl rfl HT8.out sL8 oL8 ?_)
  clear HT8
  exact HQ.out b1 bm7 m8 b8 c9 c10 { x with p := loaded x.s.pg x.p.commits false } { d with F := d.G, ra := d.sa, rb := d.sb } _ _ _ _ _ _ _ _ _ _ _ _ _ _ _ _ _ _ _ _ _ _ _ _ _ _ _ _ _ _ _ _ _ _ _ _ _ _ _ _ _ _ _ _ _ _ _ _ _ _ _ _ _ _ _ _ _ _ _ _ _ _ _ _ _ _ _ _ _ _ _ _ _ _ _ _ _ _ _ _ _ _ _ _ _ _ _ _ _ _ _ _ _ _ _ _ _ _ _ _ _ _ _ _ _ _ _ _ _ _ _ _ _ _ _ _ _ _ _ _ _ _ _ _ _ _ _ _ _ _ _ _ _ _ _ _ _ _ _ _ _ _ _ _ _ _ _ _ _ _ _ _ _ _ _ _ _ _ _ _ _ _ _ _ _ _ _ _ _ _ _ _ _ hff.out HE8 (HA.out.rollback HL.out) ((HFw.out.rollback _).mono (by omega))
end Go.Proofs.YtjnjjpdgifnnpaaGreatDoor
namespace Go.Proofs.YtjnjjpdgifnnpaaGreatDoor
open Go.RowKit Go.Maps
set_option maxRecDepth 100000 in
set_option maxHeartbeats 20000000 in
theorem case6 {Q : Exit → Act → World → Prop} {v0 v1 v2 v5 v6 v7 v13 v15 v18 v19 v20 v21 v22 v23 v24 v25 v26 v27 v28 v29 v30 v31 v32 v33 v34 v35 v36 v37 v38 v39 v40 v41 v42 v43 v44 v45 v46 v47 v48 v49 v50 v51 v52 v53 v54 v55 v56 v57 v58 v59 v60 v61 v62 v63 v64 v65 v66 v67 v68 v69 v70 v71 v72 v73 v74 v75 v76 v77 v78 v79 v80 v81 v82 v84 v85 v86 v87 v88 v89 v90 v91 v92 v93 v94 v95 v96 v97 v98 v99 v100 v101 v102 v103 v104 v105 v106 v107 v108 v109 v110 v111 v112 v113 v114 v115 v116 v117 v118 v119 v120 v121 v122 v123 v124 v125 v126 v127 v128 v129 v130 v131 v132 v133 v134 v135 v136 v137 v138 v139 v140 v141 v142 v143 v144 v145 v146 v147 v148 v149 v150 v151 v152 v153 v154 v155 v156 v157 v158 v159 v160 v161 v162 v163 v164 v165 v166 v167 v168 v169 v170 v171 v172 v173 v174 v175 v176 v177 v178 v179 v180 v181 v182 v183 v184 v185 v186 v187 v188 v189 v190 v191 v192 v193 v194 v195 v196 v197 v198 v199 v200 v201 v202 v203 v204 v205 v206 v207 v208 v209 v210 v211 v212 v213 v214 v215 v216 v217 v218 v219 v220 v221 v222 v223 v224 v225 v226 v227 v228 v229 v230 v231 v232 v233 v234 v235 v236 v237 v238 v239 v240 v241 v242 v243 v244 v245 v246 v247 v248 v249 v250 v251 v252 v253 v254 v255 v256 v257 v258 v259 v260 v261 v262 v263 v264 v265 v266 v267 v268 v269 v270 v271 v272 v273 v274 v275 v276 v277 v278 v279 v280 v281 v282 v283 v284 v285 v286 v287 v288 v289 v290 v291 v292 v293 v294 v295 v296 v297 v298 v299 v300 v301 v302 v303 v304 v305 v306 v307 v308 v309 v310 v311 v312 v313 v314 v315 v316 v317 v318 v319 v320 v321 v322 v323 v324 v325 v326 v327 v328 v329 v330 v331 : Value} {a0 b1 a2 b9 b10 a5 b6 b7 b8 c9 c10 bx k : Nat} {x : Ps} {d : Dc} {a c t : Int} {u f : Bool} {w wx : World}
    (hk50 : k < 50) (HW : Hid (HG w)) (HE1 : Hid (Env (B11 a0 b1 a2 b9 b10 a5 b6 b7 b8 c9 c10) x d (2000 + 2 * k) w wx)) (HX : Hid (Xrow bx 6 a c t wx)) (HBx : Hid (∀ i, i < 11 → B11 a0 b1 a2 b9 b10 a5 b6 b7 b8 c9 c10 i < bx)) (HA : Hid (Alike x d)) (HFw : Hid (Few k x)) (HUse : Hid ((fi d.F a).isSome = u)) (hff : Hid (f = x.fresh)) (hP : ∀ (c : List PanicEntry) (a : Act) (d : Option Tmp) (v : Value) (w : World), Q (.panic c) (a.put d v) w → Q (.panic c) a w)
    (hQ : ∀ (e1 e6 e7 e8 e9 e10 : Nat) (x : Ps) (d : Dc) (wz : World) (g : Bool) (y2 y5 y17 y18 y19 y84 y85 y86 y87 y88 y89 y90 y91 y92 y93 y94 y95 y96 y97 y98 y99 y100 y101 y102 y103 y104 y105 y106 y107 y108 y109 y110 y111 y112 y113 y114 y115 y116 y117 y118 y119 y120 y121 y122 y123 y124 y125 y126 y127 y128 y129 y130 y131 y132 y133 y134 y135 y136 y137 y138 y139 y140 y141 y142 y143 y144 y145 y146 y147 y148 y149 y150 y151 y152 y153 y154 y155 y156 y157 y158 y159 y160 y161 y162 y163 y164 y165 y166 y167 y168 y169 y170 y171 y172 y173 y174 y175 y176 y177 y178 y179 y180 y181 y182 y183 y184 y185 y186 y187 y188 y189 y190 y191 y192 y193 y194 y195 y196 y197 y198 y199 y200 y201 y202 y203 y204 y205 y206 y207 y208 y209 y210 y211 y212 y213 y214 y215 y216 y217 y218 y219 y220 y221 y222 y223 y224 y225 y226 y227 y228 y229 y230 y231 y232 y233 y234 y235 y236 y237 y238 y239 y240 y241 y242 y243 y244 y245 y246 y247 y248 y249 : Value), g = x.fresh → Hid (Env (B11 a0 e1 a2 b9 b10 a5 e6 e7 e8 e9 e10) x d (2000 + 2 * (k + 1)) w wz) → Hid (Alike x d) → Hid (Few (k + 1) x) → Q .normal { tmps := #[v0, v1, y2, .pointer (some ⟨a0, 0, none⟩), .pointer (some ⟨e1, 0, none⟩), y5, v6, v7, .pointer (some ⟨a2, 0, none⟩), .pointer (some ⟨b9, 0, none⟩), .pointer (some ⟨b10, 0, none⟩), .pointer (some ⟨a5, 0, none⟩), .bool g, v13, .pointer (some ⟨bx, 0, none⟩), v15, .bool u, y17, y18, y19, v20, v21, v22, v23, v24, v25, v26, v27, v28, v29, v30, v31, v32, v33, v34, v35, v36, v37, v38, v39, v40, v41, v42, v43, v44, v45, v46, v47, v48, v49, v50, v51, v52, v53, v54, v55, v56, v57, v58, v59, v60, v61, v62, v63, v64, v65, v66, v67, v68, v69, v70, v71, v72, v73, v74, v75, v76, v77, v78, v79, v80, v81, v82, .int .i64 6, y84, y85, y86, y87, y88, y89, y90, y91, y92, y93, y94, y95, y96, y97, y98, y99, y100, y101, y102, y103, y104, y105, y106, y107, y108, y109, y110, y111, y112, y113, y114, y115, y116, y117, y118, y119, y120, y121, y122, y123, y124, y125, y126, y127, y128, y129, y130, y131, y132, y133, y134, y135, y136, y137, y138, y139, y140, y141, y142, y143, y144, y145, y146, y147, y148, y149, y150, y151, y152, y153, y154, y155, y156, y157, y158, y159, y160, y161, y162, y163, y164, y165, y166, y167, y168, y169, y170, y171, y172, y173, y174, y175, y176, y177, y178, y179, y180, y181, y182, y183, y184, y185, y186, y187, y188, y189, y190, y191, y192, y193, y194, y195, y196, y197, y198, y199, y200, y201, y202, y203, y204, y205, y206, y207, y208, y209, y210, y211, y212, y213, y214, y215, y216, y217, y218, y219, y220, y221, y222, y223, y224, y225, y226, y227, y228, y229, y230, y231, y232, y233, y234, y235, y236, y237, y238, y239, y240, y241, y242, y243, y244, y245, y246, y247, y248, y249, v250, v251, v252, v253, v254, v255, v256, v257, v258, v259, v260, v261, v262, v263, v264, v265, v266, v267, v268, v269, v270, v271, v272, v273, v274, v275, v276, v277, v278, v279, v280, v281, v282, v283, v284, v285, v286, v287, v288, v289, v290, v291, v292, v293, v294, v295, v296, v297, v298, v299, v300, v301, v302, v303, v304, v305, v306, v307, v308, v309, v310, v311, v312, v313, v314, v315, v316, v317, v318, v319, v320, v321, v322, v323, v324, v325, v326, v327, v328, v329, v330, v331], defers := [] } wz) :
    Code.wp Tryz.prog swCode Q { tmps := #[v0, v1, v2, .pointer (some ⟨a0, 0, none⟩), .pointer (some ⟨b1, 0, none⟩), v5, v6, v7, .pointer (some ⟨a2, 0, none⟩), .pointer (some ⟨b9, 0, none⟩), .pointer (some ⟨b10, 0, none⟩), .pointer (some ⟨a5, 0, none⟩), .bool f, v13, .pointer (some ⟨bx, 0, none⟩), v15, .bool u, .int .i64 2, v18, v19, v20, v21, v22, v23, v24, v25, v26, v27, v28, v29, v30, v31, v32, v33, v34, v35, v36, v37, v38, v39, v40, v41, v42, v43, v44, v45, v46, v47, v48, v49, v50, v51, v52, v53, v54, v55, v56, v57, v58, v59, v60, v61, v62, v63, v64, v65, v66, v67, v68, v69, v70, v71, v72, v73, v74, v75, v76, v77, v78, v79, v80, v81, v82, .int .i64 6, v84, v85, v86, v87, v88, v89, v90, v91, v92, v93, v94, v95, v96, v97, v98, v99, v100, v101, v102, v103, v104, v105, v106, v107, v108, v109, v110, v111, v112, v113, v114, v115, v116, v117, v118, v119, v120, v121, v122, v123, v124, v125, v126, v127, v128, v129, v130, v131, v132, v133, v134, v135, v136, v137, v138, v139, v140, v141, v142, v143, v144, v145, v146, v147, v148, v149, v150, v151, v152, v153, v154, v155, v156, v157, v158, v159, v160, v161, v162, v163, v164, v165, v166, v167, v168, v169, v170, v171, v172, v173, v174, v175, v176, v177, v178, v179, v180, v181, v182, v183, v184, v185, v186, v187, v188, v189, v190, v191, v192, v193, v194, v195, v196, v197, v198, v199, v200, v201, v202, v203, v204, v205, v206, v207, v208, v209, v210, v211, v212, v213, v214, v215, v216, v217, v218, v219, v220, v221, v222, v223, v224, v225, v226, v227, v228, v229, v230, v231, v232, v233, v234, v235, v236, v237, v238, v239, v240, v241, v242, v243, v244, v245, v246, v247, v248, v249, v250, v251, v252, v253, v254, v255, v256, v257, v258, v259, v260, v261, v262, v263, v264, v265, v266, v267, v268, v269, v270, v271, v272, v273, v274, v275, v276, v277, v278, v279, v280, v281, v282, v283, v284, v285, v286, v287, v288, v289, v290, v291, v292, v293, v294, v295, v296, v297, v298, v299, v300, v301, v302, v303, v304, v305, v306, v307, v308, v309, v310, v311, v312, v313, v314, v315, v316, v317, v318, v319, v320, v321, v322, v323, v324, v325, v326, v327, v328, v329, v330, v331], defers := [] } wx := by
  have HQ : Hid _ := hQ
  have HP : Hid _ := hP
  clear hQ hP
  have _u1 := HW
  have _u2 := HBx
  have _u3 := HUse
  have _u4 := hff
  have _u5 := HP
  have _u6 := hk50
  have x0 := HX.out.q
  unfold swCode
  have HE0 : Hid (Env (B11 a0 b1 a2 b9 b10 a5 b6 b7 b8 c9 c10) x d (2000 + 2 * (k + 1)) w wx) := HE1.out.mono (by omega)
  go_wp2_with fail
  refine (mark_any HE0.out.pgr).mono ?_
  rintro _ w7 ⟨m7, rfl, hm7, hS7, hb7⟩
  obtain ⟨V7, hV7⟩ : ∃ V, markL x.p.used x.p.rp x.p.rn m7 x.p.commits = V := ⟨_, rfl⟩
  obtain ⟨_, sV7, oV7, lV7⟩ := mk_facts hV7
  have HT7 : Hid (w7.there a5 0 V7.toArray.size) := (HE0.out.step hb7).mrkS.there (by rw [List.size_toArray, lV7])
  have HE7 : Hid (Env (B11 a0 b1 a2 b9 b10 a5 b6 b7 b8 c9 m7) { x with q := x.p, c := x.p.commits, fresh := true } d (2000 + 2 * (k + 1)) w (w7.setCells a5 0 V7)) := by
    have h9 := (HE0.out.step hb7).setMark (HE0.out.new hm7).1 (HE0.out.new hm7).2 hS7 V7 hV7.symm
    rw [upB10] at h9
    exact h9
  rw [hV7]
  clear hS7 hm7 hb7 lV7 hV7
  obtain ⟨wz7, hwz7⟩ : ∃ wz, w7.setCells a5 0 V7 = wz := ⟨_, rfl⟩
  rw [hwz7] at HE7
  obtain ⟨K8, hK8⟩ : ∃ L, pagesL b7 d.ra d.rb = L := ⟨_, rfl⟩
  obtain ⟨sK8, _, _, _⟩ := pg_facts hK8
  have HR8 : Hid (wz7.rangeAt a2 0 K8) := by rw [Hid, ← hK8]; exact HE7.out.nowR
  go_wp2_with (first | (refine wpList_store_mid rfl 48 _ _ rfl a5 0 V7.toArray rfl rfl HT7.out sV7 oV7 ?_; rw [hwz7]) | (refine wpList_load_mid rfl 38 _ rfl a2 0 rfl K8 _ HR8.out Tryz.underlying38 rfl sK8 ?_))
  clear hwz7 HT7
  have hc8 := copy_any (show Texts b7 _ _ wz7 from HE7.out.now) d.ra d.rb
  rw [hK8] at hc8
  refine hc8.mono ?_
  rintro _ w8 ⟨m8, rfl, hm8, hT8, hb8⟩
  obtain ⟨L8, hL8⟩ : ∃ L, pagesL m8 d.ra d.rb = L := ⟨_, rfl⟩
  obtain ⟨_, sL8, oL8, lL8⟩ := pg_facts hL8
  have HT8 : Hid (w8.there b10 0 L8.toArray.size) := (HE7.out.step hb8).notS.there (by rw [List.size_toArray, lL8])
  have HE8 : Hid (Env (B11 a0 b1 a2 b9 b10 a5 b6 b7 b8 m8 m7) { x with q := x.p, c := x.p.commits, fresh := true } { d with H := d.F, na := d.ra, nb := d.rb } (2000 + 2 * (k + 1)) w (w8.setCells b10 0 L8)) := by
    have h9 := (HE7.out.step hb8).setNoted (HE7.out.new hm8).1 (HE7.out.new hm8).2 (hT8.mono (by omega)) L8 hL8.symm
    rw [upB9] at h9
    exact h9
  rw [hL8]
  clear hc8 hT8 hm8 hb8 hK8 sK8 HR8 lL8 hL8
  go_wp2_with (refine wpList_store_mid rfl 38 _ _ rfl b10 0 L8.toArray rfl rfl HT8.out sL8 oL8 ?_)
  clear HT8
  exact HQ.out b1 b6 b7 b8 m8 m7 { x with q := x.p, c := x.p.commits, fresh := true } { d with H := d.F, na := d.ra, nb := d.rb } _ _ _ _ _ _ _ _ _ _ _ _ _ _ _ _ _ _ _ _ _ _ _ _ _ _ _ _ _ _ _ _ _ _ _ _ _ _ _ _ _ _ _ _ _ _ _ _ _ _ _ _ _ _ _ _ _ _ _ _ _ _ _ _ _ _ _ _ _ _ _ _ _ _ _ _ _ _ _ _ _ _ _ _ _ _ _ _ _ _ _ _ _ _ _ _ _ _ _ _ _ _ _ _ _ _ _ _ _ _ _ _ _ _ _ _ _ _ _ _ _ _ _ _ _ _ _ _ _ _ _ _ _ _ _ _ _ _ _ _ _ _ _ _ _ _ _ _ _ _ _ _ _ _ _ _ _ _ _ _ _ _ _ _ _ _ _ _ _ _ _ _ _ rfl HE8 HA.out.mark ((HFw.out.mark _).mono (by omega))
end Go.Proofs.YtjnjjpdgifnnpaaGreatDoor
namespace Go.Proofs.YtjnjjpdgifnnpaaGreatDoor
open Go.RowKit Go.Maps
set_option maxRecDepth 100000 in
set_option maxHeartbeats 20000000 in
theorem case7 {Q : Exit → Act → World → Prop} {v0 v1 v2 v5 v6 v7 v13 v15 v18 v19 v20 v21 v22 v23 v24 v25 v26 v27 v28 v29 v30 v31 v32 v33 v34 v35 v36 v37 v38 v39 v40 v41 v42 v43 v44 v45 v46 v47 v48 v49 v50 v51 v52 v53 v54 v55 v56 v57 v58 v59 v60 v61 v62 v63 v64 v65 v66 v67 v68 v69 v70 v71 v72 v73 v74 v75 v76 v77 v78 v79 v80 v81 v82 v84 v85 v86 v87 v88 v89 v90 v91 v92 v93 v94 v95 v96 v97 v98 v99 v100 v101 v102 v103 v104 v105 v106 v107 v108 v109 v110 v111 v112 v113 v114 v115 v116 v117 v118 v119 v120 v121 v122 v123 v124 v125 v126 v127 v128 v129 v130 v131 v132 v133 v134 v135 v136 v137 v138 v139 v140 v141 v142 v143 v144 v145 v146 v147 v148 v149 v150 v151 v152 v153 v154 v155 v156 v157 v158 v159 v160 v161 v162 v163 v164 v165 v166 v167 v168 v169 v170 v171 v172 v173 v174 v175 v176 v177 v178 v179 v180 v181 v182 v183 v184 v185 v186 v187 v188 v189 v190 v191 v192 v193 v194 v195 v196 v197 v198 v199 v200 v201 v202 v203 v204 v205 v206 v207 v208 v209 v210 v211 v212 v213 v214 v215 v216 v217 v218 v219 v220 v221 v222 v223 v224 v225 v226 v227 v228 v229 v230 v231 v232 v233 v234 v235 v236 v237 v238 v239 v240 v241 v242 v243 v244 v245 v246 v247 v248 v249 v250 v251 v252 v253 v254 v255 v256 v257 v258 v259 v260 v261 v262 v263 v264 v265 v266 v267 v268 v269 v270 v271 v272 v273 v274 v275 v276 v277 v278 v279 v280 v281 v282 v283 v284 v285 v286 v287 v288 v289 v290 v291 v292 v293 v294 v295 v296 v297 v298 v299 v300 v301 v302 v303 v304 v305 v306 v307 v308 v309 v310 v311 v312 v313 v314 v315 v316 v317 v318 v319 v320 v321 v322 v323 v324 v325 v326 v327 v328 v329 v330 v331 : Value} {a0 b1 a2 b9 b10 a5 b6 b7 b8 c9 c10 bx k : Nat} {x : Ps} {d : Dc} {a c t : Int} {u f : Bool} {w wx : World}
    (hk50 : k < 50) (HW : Hid (HG w)) (HE1 : Hid (Env (B11 a0 b1 a2 b9 b10 a5 b6 b7 b8 c9 c10) x d (2000 + 2 * k) w wx)) (HX : Hid (Xrow bx 7 a c t wx)) (HBx : Hid (∀ i, i < 11 → B11 a0 b1 a2 b9 b10 a5 b6 b7 b8 c9 c10 i < bx)) (HA : Hid (Alike x d)) (HFw : Hid (Few k x)) (HUse : Hid ((fi d.F a).isSome = u)) (hff : Hid (f = x.fresh)) (hP : ∀ (c : List PanicEntry) (a : Act) (d : Option Tmp) (v : Value) (w : World), Q (.panic c) (a.put d v) w → Q (.panic c) a w)
    (hQ : ∀ (e1 e6 e7 e8 e9 e10 : Nat) (x : Ps) (d : Dc) (wz : World) (g : Bool) (y2 y5 y17 y18 y19 y84 y85 y86 y87 y88 y89 y90 y91 y92 y93 y94 y95 y96 y97 y98 y99 y100 y101 y102 y103 y104 y105 y106 y107 y108 y109 y110 y111 y112 y113 y114 y115 y116 y117 y118 y119 y120 y121 y122 y123 y124 y125 y126 y127 y128 y129 y130 y131 y132 y133 y134 y135 y136 y137 y138 y139 y140 y141 y142 y143 y144 y145 y146 y147 y148 y149 y150 y151 y152 y153 y154 y155 y156 y157 y158 y159 y160 y161 y162 y163 y164 y165 y166 y167 y168 y169 y170 y171 y172 y173 y174 y175 y176 y177 y178 y179 y180 y181 y182 y183 y184 y185 y186 y187 y188 y189 y190 y191 y192 y193 y194 y195 y196 y197 y198 y199 y200 y201 y202 y203 y204 y205 y206 y207 y208 y209 y210 y211 y212 y213 y214 y215 y216 y217 y218 y219 y220 y221 y222 y223 y224 y225 y226 y227 y228 y229 y230 y231 y232 y233 y234 y235 y236 y237 y238 y239 y240 y241 y242 y243 y244 y245 y246 y247 y248 y249 : Value), g = x.fresh → Hid (Env (B11 a0 e1 a2 b9 b10 a5 e6 e7 e8 e9 e10) x d (2000 + 2 * (k + 1)) w wz) → Hid (Alike x d) → Hid (Few (k + 1) x) → Q .normal { tmps := #[v0, v1, y2, .pointer (some ⟨a0, 0, none⟩), .pointer (some ⟨e1, 0, none⟩), y5, v6, v7, .pointer (some ⟨a2, 0, none⟩), .pointer (some ⟨b9, 0, none⟩), .pointer (some ⟨b10, 0, none⟩), .pointer (some ⟨a5, 0, none⟩), .bool g, v13, .pointer (some ⟨bx, 0, none⟩), v15, .bool u, y17, y18, y19, v20, v21, v22, v23, v24, v25, v26, v27, v28, v29, v30, v31, v32, v33, v34, v35, v36, v37, v38, v39, v40, v41, v42, v43, v44, v45, v46, v47, v48, v49, v50, v51, v52, v53, v54, v55, v56, v57, v58, v59, v60, v61, v62, v63, v64, v65, v66, v67, v68, v69, v70, v71, v72, v73, v74, v75, v76, v77, v78, v79, v80, v81, v82, .int .i64 7, y84, y85, y86, y87, y88, y89, y90, y91, y92, y93, y94, y95, y96, y97, y98, y99, y100, y101, y102, y103, y104, y105, y106, y107, y108, y109, y110, y111, y112, y113, y114, y115, y116, y117, y118, y119, y120, y121, y122, y123, y124, y125, y126, y127, y128, y129, y130, y131, y132, y133, y134, y135, y136, y137, y138, y139, y140, y141, y142, y143, y144, y145, y146, y147, y148, y149, y150, y151, y152, y153, y154, y155, y156, y157, y158, y159, y160, y161, y162, y163, y164, y165, y166, y167, y168, y169, y170, y171, y172, y173, y174, y175, y176, y177, y178, y179, y180, y181, y182, y183, y184, y185, y186, y187, y188, y189, y190, y191, y192, y193, y194, y195, y196, y197, y198, y199, y200, y201, y202, y203, y204, y205, y206, y207, y208, y209, y210, y211, y212, y213, y214, y215, y216, y217, y218, y219, y220, y221, y222, y223, y224, y225, y226, y227, y228, y229, y230, y231, y232, y233, y234, y235, y236, y237, y238, y239, y240, y241, y242, y243, y244, y245, y246, y247, y248, y249, v250, v251, v252, v253, v254, v255, v256, v257, v258, v259, v260, v261, v262, v263, v264, v265, v266, v267, v268, v269, v270, v271, v272, v273, v274, v275, v276, v277, v278, v279, v280, v281, v282, v283, v284, v285, v286, v287, v288, v289, v290, v291, v292, v293, v294, v295, v296, v297, v298, v299, v300, v301, v302, v303, v304, v305, v306, v307, v308, v309, v310, v311, v312, v313, v314, v315, v316, v317, v318, v319, v320, v321, v322, v323, v324, v325, v326, v327, v328, v329, v330, v331], defers := [] } wz) :
    Code.wp Tryz.prog swCode Q { tmps := #[v0, v1, v2, .pointer (some ⟨a0, 0, none⟩), .pointer (some ⟨b1, 0, none⟩), v5, v6, v7, .pointer (some ⟨a2, 0, none⟩), .pointer (some ⟨b9, 0, none⟩), .pointer (some ⟨b10, 0, none⟩), .pointer (some ⟨a5, 0, none⟩), .bool f, v13, .pointer (some ⟨bx, 0, none⟩), v15, .bool u, .int .i64 2, v18, v19, v20, v21, v22, v23, v24, v25, v26, v27, v28, v29, v30, v31, v32, v33, v34, v35, v36, v37, v38, v39, v40, v41, v42, v43, v44, v45, v46, v47, v48, v49, v50, v51, v52, v53, v54, v55, v56, v57, v58, v59, v60, v61, v62, v63, v64, v65, v66, v67, v68, v69, v70, v71, v72, v73, v74, v75, v76, v77, v78, v79, v80, v81, v82, .int .i64 7, v84, v85, v86, v87, v88, v89, v90, v91, v92, v93, v94, v95, v96, v97, v98, v99, v100, v101, v102, v103, v104, v105, v106, v107, v108, v109, v110, v111, v112, v113, v114, v115, v116, v117, v118, v119, v120, v121, v122, v123, v124, v125, v126, v127, v128, v129, v130, v131, v132, v133, v134, v135, v136, v137, v138, v139, v140, v141, v142, v143, v144, v145, v146, v147, v148, v149, v150, v151, v152, v153, v154, v155, v156, v157, v158, v159, v160, v161, v162, v163, v164, v165, v166, v167, v168, v169, v170, v171, v172, v173, v174, v175, v176, v177, v178, v179, v180, v181, v182, v183, v184, v185, v186, v187, v188, v189, v190, v191, v192, v193, v194, v195, v196, v197, v198, v199, v200, v201, v202, v203, v204, v205, v206, v207, v208, v209, v210, v211, v212, v213, v214, v215, v216, v217, v218, v219, v220, v221, v222, v223, v224, v225, v226, v227, v228, v229, v230, v231, v232, v233, v234, v235, v236, v237, v238, v239, v240, v241, v242, v243, v244, v245, v246, v247, v248, v249, v250, v251, v252, v253, v254, v255, v256, v257, v258, v259, v260, v261, v262, v263, v264, v265, v266, v267, v268, v269, v270, v271, v272, v273, v274, v275, v276, v277, v278, v279, v280, v281, v282, v283, v284, v285, v286, v287, v288, v289, v290, v291, v292, v293, v294, v295, v296, v297, v298, v299, v300, v301, v302, v303, v304, v305, v306, v307, v308, v309, v310, v311, v312, v313, v314, v315, v316, v317, v318, v319, v320, v321, v322, v323, v324, v325, v326, v327, v328, v329, v330, v331], defers := [] } wx := by
  have HQ : Hid _ := hQ
  have HP : Hid _ := hP
  clear hQ hP
  have _u1 := HW
  have _u2 := HBx
  have _u3 := HUse
  have _u4 := hff
  have _u5 := HP
  have _u6 := hk50
  have x0 := HX.out.q
  unfold swCode
  have HE0 : Hid (Env (B11 a0 b1 a2 b9 b10 a5 b6 b7 b8 c9 c10) x d (2000 + 2 * (k + 1)) w wx) := HE1.out.mono (by omega)
  have hz8 := Tryz.zeroValue48
  cases f
  · have hfr : x.fresh = false := hff.out.symm
    as_aux_lemma =>
      obtain ⟨V, hV⟩ : ∃ V, markL x.q.used x.q.rp x.q.rn c10 x.c = V := ⟨_, rfl⟩
      obtain ⟨sV, _, _, _⟩ := mk_facts hV
      have HRV : Hid (wx.rangeAt a5 0 V) := by rw [Hid, ← hV]; exact HE0.out.mrkR
      have HLt : Hid (x.c < x.p.commits) := HA.out.com0 hfr
      have HLs : Hid (V[2017]? = some (.int .i64 x.c)) := by rw [Hid, ← hV]; exact mark_last _ _ _ _ _
      go_wp2_with (refine wpList_load_mid rfl 48 _ rfl a5 0 rfl V _ HRV.out Tryz.underlying48 rfl sV ?_)
      refine (back_arg (show Cells b1 a0 b6 _ wx from HE0.out.pgr.cells) HE0.out.down V x.c HLs.out (by have := HLt.out; omega)).mono ?_
      rintro _ w9 ⟨rfl, hb9⟩
      have HE9 : Hid (Env (B11 a0 b1 a2 b9 b10 a5 b6 b7 b8 c9 c10) x d (2000 + 2 * (k + 1)) w w9) := HE0.out.step hb9
      clear hb9 hV sV HRV HLs x0
      go_wp2_with fail
      refine (bare_any _ 1 _ (HE9.out.hg HW.out) (.inr (.inr ⟨rfl, rfl⟩))).mono ?_
      rintro _ w10 ⟨rfl, hb10⟩
      have HE10 : Hid (Env (B11 a0 b1 a2 b9 b10 a5 b6 b7 b8 c9 c10) x d (2000 + 2 * (k + 1)) w w10) := HE9.out.step hb10
      clear hb10
      go_wp2_with fail
      refine (back_zero (show Cells b1 a0 b6 _ w10 from HE10.out.pgr.cells) HE10.out.down HE10.out.com.1).mono ?_
      rintro _ w11 ⟨rfl, hb11⟩
      have HE11 : Hid (Env (B11 a0 b1 a2 b9 b10 a5 b6 b7 b8 c9 c10) x d (2000 + 2 * (k + 1)) w w11) := HE10.out.step hb11
      clear hb11
      go_wp2_with fail
      refine (bare_any _ 1 _ (HE11.out.hg HW.out) (.inr (.inr ⟨rfl, rfl⟩))).mono ?_
      rintro _ w12 ⟨rfl, hb12⟩
      have HE12 : Hid (Env (B11 a0 b1 a2 b9 b10 a5 b6 b7 b8 c9 c10) x d (2000 + 2 * (k + 1)) w w12) := HE11.out.step hb12
      clear hb12
      go_wp2_with fail
      exact HQ.out b1 b6 b7 b8 c9 c10 x d _ _ _ _ _ _ _ _ _ _ _ _ _ _ _ _ _ _ _ _ _ _ _ _ _ _ _ _ _ _ _ _ _ _ _ _ _ _ _ _ _ _ _ _ _ _ _ _ _ _ _ _ _ _ _ _ _ _ _ _ _ _ _ _ _ _ _ _ _ _ _ _ _ _ _ _ _ _ _ _ _ _ _ _ _ _ _ _ _ _ _ _ _ _ _ _ _ _ _ _ _ _ _ _ _ _ _ _ _ _ _ _ _ _ _ _ _ _ _ _ _ _ _ _ _ _ _ _ _ _ _ _ _ _ _ _ _ _ _ _ _ _ _ _ _ _ _ _ _ _ _ _ _ _ _ _ _ _ _ _ _ _ _ _ _ _ _ _ _ _ _ _ _ hff.out HE12 HA (HFw.out.mono (by omega))
  · have hfr : x.fresh = true := hff.out.symm
    as_aux_lemma =>
      obtain ⟨K8, hK8⟩ : ∃ L, pagesL c9 d.na d.nb = L := ⟨_, rfl⟩
      obtain ⟨sK8, _, _, _⟩ := pg_facts hK8
      have HR8 : Hid (wx.rangeAt b10 0 K8) := by rw [Hid, ← hK8]; exact HE0.out.notR
      go_wp2_with (refine wpList_load_mid rfl 38 _ rfl b10 0 rfl K8 _ HR8.out Tryz.underlying38 rfl sK8 ?_)
      have hc8 := copy_any (show Texts c9 _ _ wx from HE0.out.not) d.na d.nb
      rw [hK8] at hc8
      refine hc8.mono ?_
      rintro _ w8 ⟨m8, rfl, hm8, hT8, hb8⟩
      obtain ⟨L8, hL8⟩ : ∃ L, pagesL m8 d.na d.nb = L := ⟨_, rfl⟩
      obtain ⟨_, sL8, oL8, lL8⟩ := pg_facts hL8
      have HT8 : Hid (w8.there a2 0 L8.toArray.size) := (HE0.out.step hb8).nowS.there (by rw [List.size_toArray, lL8])
      have HE8 : Hid (Env (B11 a0 b1 a2 b9 b10 a5 b6 m8 b8 c9 c10) x { d with F := d.H, ra := d.na, rb := d.nb } (2000 + 2 * (k + 1)) w (w8.setCells a2 0 L8)) := by
        have h9 := (HE0.out.step hb8).setNow (HE0.out.new hm8).1 (HE0.out.new hm8).2 (hT8.mono (by omega)) L8 hL8.symm
        rw [upB7] at h9
        exact h9
      rw [hL8]
      clear hc8 hT8 hm8 hb8 hK8 sK8 HR8 lL8 hL8
      obtain ⟨wz8, hwz8⟩ : ∃ wz, w8.setCells a2 0 L8 = wz := ⟨_, rfl⟩
      rw [hwz8] at HE8
      obtain ⟨V, hV⟩ : ∃ V, markL x.q.used x.q.rp x.q.rn c10 x.c = V := ⟨_, rfl⟩
      obtain ⟨sV, _, _, _⟩ := mk_facts hV
      have HRV : Hid (wz8.rangeAt a5 0 V) := by rw [Hid, ← hV]; exact HE8.out.mrkR
      have HCC : Hid (x.c = x.p.commits) := HA.out.com1 hfr
      go_wp2_with (first | (refine wpList_store_mid rfl 38 _ _ rfl a2 0 L8.toArray rfl rfl HT8.out sL8 oL8 ?_; rw [hwz8]) | (refine wpList_load_mid rfl 48 _ rfl a5 0 rfl V _ HRV.out Tryz.underlying48 rfl sV ?_))
      clear hwz8 HT8
      have hk9 := back_yes (show PagerIs b1 a0 b6 _ x.p wz8 from HE8.out.pgr) HE8.out.down x.q c10 _ HE8.out.mrk (fun e => HE8.out.inj 10 1 (by omega) (by omega) (by omega) e)
      rw [← HCC.out, hV] at hk9
      refine hk9.mono ?_
      rintro _ w9 ⟨rfl, ⟨bm9, hbm9, hP9⟩, hS9, hO9⟩
      have HE9 : Hid (Env (B11 a0 b1 a2 b9 b10 a5 bm9 m8 b8 c9 c10) { x with p := x.p.back x.q } { d with F := d.H, ra := d.na, rb := d.nb } (2000 + 2 * (k + 1)) w w9) := by
        have h9 := HE8.out.pagerN hbm9 hP9 hO9 (Pg.Ok.back HE8.out.qok) (fun _ _ => rfl) rfl rfl
        rw [upB6] at h9
        exact h9
      clear hk9 hbm9 hP9 hS9 hO9 hV sV HRV x0
      go_wp2_with fail
      refine (bare_any _ 0 _ (HE9.out.hg HW.out) (.inl ⟨rfl, rfl, rfl⟩)).mono ?_
      rintro _ w10 ⟨rfl, hb10⟩
      have HE10 : Hid (Env (B11 a0 b1 a2 b9 b10 a5 bm9 m8 b8 c9 c10) { x with p := x.p.back x.q } { d with F := d.H, ra := d.na, rb := d.nb } (2000 + 2 * (k + 1)) w w10) := HE9.out.step hb10
      clear hb10
      go_wp2_with fail
      refine (back_zero (show Cells b1 a0 bm9 _ w10 from HE10.out.pgr.cells) HE10.out.down HE10.out.com.1).mono ?_
      rintro _ w11 ⟨rfl, hb11⟩
      have HE11 : Hid (Env (B11 a0 b1 a2 b9 b10 a5 bm9 m8 b8 c9 c10) { x with p := x.p.back x.q } { d with F := d.H, ra := d.na, rb := d.nb } (2000 + 2 * (k + 1)) w w11) := HE10.out.step hb11
      clear hb11
      go_wp2_with fail
      refine (bare_any _ 1 _ (HE11.out.hg HW.out) (.inr (.inr ⟨rfl, rfl⟩))).mono ?_
      rintro _ w12 ⟨rfl, hb12⟩
      have HE12 : Hid (Env (B11 a0 b1 a2 b9 b10 a5 bm9 m8 b8 c9 c10) { x with p := x.p.back x.q } { d with F := d.H, ra := d.na, rb := d.nb } (2000 + 2 * (k + 1)) w w12) := HE11.out.step hb12
      clear hb12
      go_wp2_with fail
      exact HQ.out b1 bm9 m8 b8 c9 c10 { x with p := x.p.back x.q } { d with F := d.H, ra := d.na, rb := d.nb } _ _ _ _ _ _ _ _ _ _ _ _ _ _ _ _ _ _ _ _ _ _ _ _ _ _ _ _ _ _ _ _ _ _ _ _ _ _ _ _ _ _ _ _ _ _ _ _ _ _ _ _ _ _ _ _ _ _ _ _ _ _ _ _ _ _ _ _ _ _ _ _ _ _ _ _ _ _ _ _ _ _ _ _ _ _ _ _ _ _ _ _ _ _ _ _ _ _ _ _ _ _ _ _ _ _ _ _ _ _ _ _ _ _ _ _ _ _ _ _ _ _ _ _ _ _ _ _ _ _ _ _ _ _ _ _ _ _ _ _ _ _ _ _ _ _ _ _ _ _ _ _ _ _ _ _ _ _ _ _ _ _ _ _ _ _ _ _ _ _ _ _ _ hff.out HE12 (HA.out.back hfr) (HFw.out.back.mono (by omega))
end Go.Proofs.YtjnjjpdgifnnpaaGreatDoor
namespace Go.Proofs.YtjnjjpdgifnnpaaGreatDoor
open Go.RowKit Go.Maps
set_option maxRecDepth 100000 in
set_option maxHeartbeats 20000000 in
theorem case8 {Q : Exit → Act → World → Prop} {v0 v1 v2 v5 v6 v7 v13 v15 v18 v19 v20 v21 v22 v23 v24 v25 v26 v27 v28 v29 v30 v31 v32 v33 v34 v35 v36 v37 v38 v39 v40 v41 v42 v43 v44 v45 v46 v47 v48 v49 v50 v51 v52 v53 v54 v55 v56 v57 v58 v59 v60 v61 v62 v63 v64 v65 v66 v67 v68 v69 v70 v71 v72 v73 v74 v75 v76 v77 v78 v79 v80 v81 v82 v84 v85 v86 v87 v88 v89 v90 v91 v92 v93 v94 v95 v96 v97 v98 v99 v100 v101 v102 v103 v104 v105 v106 v107 v108 v109 v110 v111 v112 v113 v114 v115 v116 v117 v118 v119 v120 v121 v122 v123 v124 v125 v126 v127 v128 v129 v130 v131 v132 v133 v134 v135 v136 v137 v138 v139 v140 v141 v142 v143 v144 v145 v146 v147 v148 v149 v150 v151 v152 v153 v154 v155 v156 v157 v158 v159 v160 v161 v162 v163 v164 v165 v166 v167 v168 v169 v170 v171 v172 v173 v174 v175 v176 v177 v178 v179 v180 v181 v182 v183 v184 v185 v186 v187 v188 v189 v190 v191 v192 v193 v194 v195 v196 v197 v198 v199 v200 v201 v202 v203 v204 v205 v206 v207 v208 v209 v210 v211 v212 v213 v214 v215 v216 v217 v218 v219 v220 v221 v222 v223 v224 v225 v226 v227 v228 v229 v230 v231 v232 v233 v234 v235 v236 v237 v238 v239 v240 v241 v242 v243 v244 v245 v246 v247 v248 v249 v250 v251 v252 v253 v254 v255 v256 v257 v258 v259 v260 v261 v262 v263 v264 v265 v266 v267 v268 v269 v270 v271 v272 v273 v274 v275 v276 v277 v278 v279 v280 v281 v282 v283 v284 v285 v286 v287 v288 v289 v290 v291 v292 v293 v294 v295 v296 v297 v298 v299 v300 v301 v302 v303 v304 v305 v306 v307 v308 v309 v310 v311 v312 v313 v314 v315 v316 v317 v318 v319 v320 v321 v322 v323 v324 v325 v326 v327 v328 v329 v330 v331 : Value} {a0 b1 a2 b9 b10 a5 b6 b7 b8 c9 c10 bx k : Nat} {x : Ps} {d : Dc} {a c t : Int} {u f : Bool} {w wx : World}
    (hk50 : k < 50) (HW : Hid (HG w)) (HE1 : Hid (Env (B11 a0 b1 a2 b9 b10 a5 b6 b7 b8 c9 c10) x d (2000 + 2 * k) w wx)) (HX : Hid (Xrow bx 8 a c t wx)) (HBx : Hid (∀ i, i < 11 → B11 a0 b1 a2 b9 b10 a5 b6 b7 b8 c9 c10 i < bx)) (HA : Hid (Alike x d)) (HFw : Hid (Few k x)) (HUse : Hid ((fi d.F a).isSome = u)) (hff : Hid (f = x.fresh)) (hP : ∀ (c : List PanicEntry) (a : Act) (d : Option Tmp) (v : Value) (w : World), Q (.panic c) (a.put d v) w → Q (.panic c) a w)
    (hQ : ∀ (e1 e6 e7 e8 e9 e10 : Nat) (x : Ps) (d : Dc) (wz : World) (g : Bool) (y2 y5 y17 y18 y19 y84 y85 y86 y87 y88 y89 y90 y91 y92 y93 y94 y95 y96 y97 y98 y99 y100 y101 y102 y103 y104 y105 y106 y107 y108 y109 y110 y111 y112 y113 y114 y115 y116 y117 y118 y119 y120 y121 y122 y123 y124 y125 y126 y127 y128 y129 y130 y131 y132 y133 y134 y135 y136 y137 y138 y139 y140 y141 y142 y143 y144 y145 y146 y147 y148 y149 y150 y151 y152 y153 y154 y155 y156 y157 y158 y159 y160 y161 y162 y163 y164 y165 y166 y167 y168 y169 y170 y171 y172 y173 y174 y175 y176 y177 y178 y179 y180 y181 y182 y183 y184 y185 y186 y187 y188 y189 y190 y191 y192 y193 y194 y195 y196 y197 y198 y199 y200 y201 y202 y203 y204 y205 y206 y207 y208 y209 y210 y211 y212 y213 y214 y215 y216 y217 y218 y219 y220 y221 y222 y223 y224 y225 y226 y227 y228 y229 y230 y231 y232 y233 y234 y235 y236 y237 y238 y239 y240 y241 y242 y243 y244 y245 y246 y247 y248 y249 : Value), g = x.fresh → Hid (Env (B11 a0 e1 a2 b9 b10 a5 e6 e7 e8 e9 e10) x d (2000 + 2 * (k + 1)) w wz) → Hid (Alike x d) → Hid (Few (k + 1) x) → Q .normal { tmps := #[v0, v1, y2, .pointer (some ⟨a0, 0, none⟩), .pointer (some ⟨e1, 0, none⟩), y5, v6, v7, .pointer (some ⟨a2, 0, none⟩), .pointer (some ⟨b9, 0, none⟩), .pointer (some ⟨b10, 0, none⟩), .pointer (some ⟨a5, 0, none⟩), .bool g, v13, .pointer (some ⟨bx, 0, none⟩), v15, .bool u, y17, y18, y19, v20, v21, v22, v23, v24, v25, v26, v27, v28, v29, v30, v31, v32, v33, v34, v35, v36, v37, v38, v39, v40, v41, v42, v43, v44, v45, v46, v47, v48, v49, v50, v51, v52, v53, v54, v55, v56, v57, v58, v59, v60, v61, v62, v63, v64, v65, v66, v67, v68, v69, v70, v71, v72, v73, v74, v75, v76, v77, v78, v79, v80, v81, v82, .int .i64 8, y84, y85, y86, y87, y88, y89, y90, y91, y92, y93, y94, y95, y96, y97, y98, y99, y100, y101, y102, y103, y104, y105, y106, y107, y108, y109, y110, y111, y112, y113, y114, y115, y116, y117, y118, y119, y120, y121, y122, y123, y124, y125, y126, y127, y128, y129, y130, y131, y132, y133, y134, y135, y136, y137, y138, y139, y140, y141, y142, y143, y144, y145, y146, y147, y148, y149, y150, y151, y152, y153, y154, y155, y156, y157, y158, y159, y160, y161, y162, y163, y164, y165, y166, y167, y168, y169, y170, y171, y172, y173, y174, y175, y176, y177, y178, y179, y180, y181, y182, y183, y184, y185, y186, y187, y188, y189, y190, y191, y192, y193, y194, y195, y196, y197, y198, y199, y200, y201, y202, y203, y204, y205, y206, y207, y208, y209, y210, y211, y212, y213, y214, y215, y216, y217, y218, y219, y220, y221, y222, y223, y224, y225, y226, y227, y228, y229, y230, y231, y232, y233, y234, y235, y236, y237, y238, y239, y240, y241, y242, y243, y244, y245, y246, y247, y248, y249, v250, v251, v252, v253, v254, v255, v256, v257, v258, v259, v260, v261, v262, v263, v264, v265, v266, v267, v268, v269, v270, v271, v272, v273, v274, v275, v276, v277, v278, v279, v280, v281, v282, v283, v284, v285, v286, v287, v288, v289, v290, v291, v292, v293, v294, v295, v296, v297, v298, v299, v300, v301, v302, v303, v304, v305, v306, v307, v308, v309, v310, v311, v312, v313, v314, v315, v316, v317, v318, v319, v320, v321, v322, v323, v324, v325, v326, v327, v328, v329, v330, v331], defers := [] } wz) :
    Code.wp Tryz.prog swCode Q { tmps := #[v0, v1, v2, .pointer (some ⟨a0, 0, none⟩), .pointer (some ⟨b1, 0, none⟩), v5, v6, v7, .pointer (some ⟨a2, 0, none⟩), .pointer (some ⟨b9, 0, none⟩), .pointer (some ⟨b10, 0, none⟩), .pointer (some ⟨a5, 0, none⟩), .bool f, v13, .pointer (some ⟨bx, 0, none⟩), v15, .bool u, .int .i64 2, v18, v19, v20, v21, v22, v23, v24, v25, v26, v27, v28, v29, v30, v31, v32, v33, v34, v35, v36, v37, v38, v39, v40, v41, v42, v43, v44, v45, v46, v47, v48, v49, v50, v51, v52, v53, v54, v55, v56, v57, v58, v59, v60, v61, v62, v63, v64, v65, v66, v67, v68, v69, v70, v71, v72, v73, v74, v75, v76, v77, v78, v79, v80, v81, v82, .int .i64 8, v84, v85, v86, v87, v88, v89, v90, v91, v92, v93, v94, v95, v96, v97, v98, v99, v100, v101, v102, v103, v104, v105, v106, v107, v108, v109, v110, v111, v112, v113, v114, v115, v116, v117, v118, v119, v120, v121, v122, v123, v124, v125, v126, v127, v128, v129, v130, v131, v132, v133, v134, v135, v136, v137, v138, v139, v140, v141, v142, v143, v144, v145, v146, v147, v148, v149, v150, v151, v152, v153, v154, v155, v156, v157, v158, v159, v160, v161, v162, v163, v164, v165, v166, v167, v168, v169, v170, v171, v172, v173, v174, v175, v176, v177, v178, v179, v180, v181, v182, v183, v184, v185, v186, v187, v188, v189, v190, v191, v192, v193, v194, v195, v196, v197, v198, v199, v200, v201, v202, v203, v204, v205, v206, v207, v208, v209, v210, v211, v212, v213, v214, v215, v216, v217, v218, v219, v220, v221, v222, v223, v224, v225, v226, v227, v228, v229, v230, v231, v232, v233, v234, v235, v236, v237, v238, v239, v240, v241, v242, v243, v244, v245, v246, v247, v248, v249, v250, v251, v252, v253, v254, v255, v256, v257, v258, v259, v260, v261, v262, v263, v264, v265, v266, v267, v268, v269, v270, v271, v272, v273, v274, v275, v276, v277, v278, v279, v280, v281, v282, v283, v284, v285, v286, v287, v288, v289, v290, v291, v292, v293, v294, v295, v296, v297, v298, v299, v300, v301, v302, v303, v304, v305, v306, v307, v308, v309, v310, v311, v312, v313, v314, v315, v316, v317, v318, v319, v320, v321, v322, v323, v324, v325, v326, v327, v328, v329, v330, v331], defers := [] } wx := by
  have HQ : Hid _ := hQ
  have HP : Hid _ := hP
  clear hQ hP
  have _u1 := HW
  have _u2 := HBx
  have _u3 := HUse
  have _u4 := hff
  have _u5 := HP
  have _u6 := hk50
  have x0 := HX.out.q
  unfold swCode
  go_wp2_with fail
  refine (open_any (show Prg a0 x.s wx from HE1.out.prg)).mono ?_
  rintro _ w7 ⟨bp7, bm7, rfl, hp7, hm7, hP7, hD7, hb7⟩
  have HE2 : Hid (Env (B11 a0 bp7 a2 b9 b10 a5 bm7 b7 b8 c9 c10) { x with p := loaded x.s.pg 1 false } d (2000 + 2 * (k + 1)) w w7) := by
    have h9 := (HE1.out.mono (show 2000 + 2 * k ≤ 2000 + 2 * (k + 1) by omega)).opened hp7 hm7 hb7 hD7 (hP7.mono (Nat.zero_le _)) (by omega)
    rw [upB1, upB6] at h9
    exact h9
  clear hp7 hm7 hP7 hD7 hb7 x0
  obtain ⟨KK, hKK⟩ : ∃ L, pagesL b8 d.sa d.sb = L := ⟨_, rfl⟩
  obtain ⟨sKK, _, _, _⟩ := pg_facts hKK
  go_wp2_with fail
  have HE3 : Hid (Env (B11 a0 bp7 a2 b9 b10 a5 bm7 b7 b8 c9 c10) { x with p := loaded x.s.pg 1 false } d (2000 + 2 * (k + 1)) w w7.drew) := HE2.out.drew
  have HKr : Hid (∀ wq, Env (B11 a0 bp7 a2 b9 b10 a5 bm7 b7 b8 c9 c10) { x with p := loaded x.s.pg 1 false } d (2000 + 2 * (k + 1)) w wq → wq.rangeAt b9 0 KK) := fun wq h => by rw [← hKK]; exact h.savR
  refine wp_region_held_drew (S := fun wq => wq.rangeAt b9 0 KK) (by kernel_rfl) (HKr.out _ HE3.out) ?_
  intro g0
  refine wpAnyH_take (i := 0) (oi := { dst := some 244, op := Op.load 38 (Operand.tmp 9), type := 38, pos := "law.go:214", after := #[], guard := none }) (v := .agg KK.toArray) rfl (by kernel_rfl) (by kernel_rfl) (by kernel_rfl) (fun c a w h => HP.out c a _ _ w h) (yieldsIf_load_mid (by rfl) 38 _ rfl _ 0 rfl KK _ (fun wx h => h) Tryz.underlying38 rfl sKK) g0 ?_
  simp only [Act.put, List.setIfInBounds_toArray, List.set_cons_zero, List.set_cons_succ]
  refine wpAnyH_take (i := 2) (oi := { dst := some 246, op := Op.load 38 (Operand.tmp 9), type := 38, pos := "law.go:214", after := #[], guard := none }) (v := .agg KK.toArray) rfl (by kernel_rfl) (by kernel_rfl) (by kernel_rfl) (fun c a w h => HP.out c a _ _ w h) (yieldsIf_load_mid (by rfl) 38 _ rfl _ 0 rfl KK _ (fun wx h => h) Tryz.underlying38 rfl sKK) g0 ?_
  simp only [Act.put, List.setIfInBounds_toArray, List.set_cons_zero, List.set_cons_succ]
  refine wpAnyH_ready (rs := [1]) (by kernel_rfl) (by decide) (AllReadyH.cons (o := { dst := some 245, op := Op.call { callee := Callee.value (Operand.func 7), args := #[Operand.tmp 244], argTypes := #[38] }, type := 38, pos := "law.go:214", after := #[{ on := 0, ground := Ground.data }], guard := none }) rfl (fun K hK => ?_) AllReadyH.nil)
  rw [if_pos (by rfl)]
  go_simp
  have hc := copy_any (show Texts b8 _ _ w7.drew from HE3.out.sav) d.sa d.sb
  rw [hKK] at hc
  refine hc.mono ?_
  rintro _ w8 ⟨m8, rfl, hm8, hT8, hb8⟩
  have HE4 : Hid (Env (B11 a0 bp7 a2 b9 b10 a5 bm7 b7 b8 c9 c10) { x with p := loaded x.s.pg 1 false } d (2000 + 2 * (k + 1)) w w8) := HE3.out.step hb8
  have HN8 : Hid ((∀ i, i < 11 → m8 ≠ B11 a0 bp7 a2 b9 b10 a5 bm7 b7 b8 c9 c10 i) ∧ w.heap.size ≤ m8) := HE3.out.new hm8
  have HT8 : Hid (Texts m8 2000 d.G w8) := hT8
  clear hc hm8 hT8 hb8
  refine hK.out _ _ (HKr.out _ HE4.out) (fun g1 => ?_)
  clear hK K
  try simp only [Act.put, List.setIfInBounds_toArray, List.set_cons_zero, List.set_cons_succ]
  refine wpAnyH_ready (rs := [3]) (by kernel_rfl) (by decide) (AllReadyH.cons (o := { dst := some 247, op := Op.call { callee := Callee.value (Operand.func 7), args := #[Operand.tmp 246], argTypes := #[38] }, type := 38, pos := "law.go:214", after := #[{ on := 2, ground := Ground.data }, { on := 1, ground := Ground.chain }], guard := none }) rfl (fun K hK => ?_) AllReadyH.nil)
  rw [if_pos (by rfl)]
  go_simp
  have hc := copy_any (show Texts b8 _ _ w8 from HE4.out.sav) d.sa d.sb
  rw [hKK] at hc
  refine hc.mono ?_
  rintro _ w9 ⟨m9, rfl, hm9, hT9, hb9⟩
  have HE5 : Hid (Env (B11 a0 bp7 a2 b9 b10 a5 bm7 b7 b8 c9 c10) { x with p := loaded x.s.pg 1 false } d (2000 + 2 * (k + 1)) w w9) := HE4.out.step hb9
  have HN9 : Hid ((∀ i, i < 11 → m9 ≠ B11 a0 bp7 a2 b9 b10 a5 bm7 b7 b8 c9 c10 i) ∧ w.heap.size ≤ m9) := HE4.out.new hm9
  have HT9 : Hid (Texts m9 2000 d.G w9) := hT9
  have HTa : Hid (Texts m8 2000 d.G w9) := HT8.out.block (hb9.block _ HT8.out.lt)
  have HNm : Hid (m9 ≠ m8) := fun e => by have := HT8.out.lt; omega
  clear hc hm9 hT9 hb9
  refine hK.out _ _ (HKr.out _ HE5.out) (fun g2 => ?_)
  clear hK K
  try simp only [Act.put, List.setIfInBounds_toArray, List.set_cons_zero, List.set_cons_succ]
  obtain ⟨L1, hL1⟩ : ∃ L, pagesL m8 d.sa d.sb = L := ⟨_, rfl⟩
  obtain ⟨L2, hL2⟩ : ∃ L, pagesL m9 d.sa d.sb = L := ⟨_, rfl⟩
  obtain ⟨_, sL1, oL1, lL1⟩ := pg_facts hL1
  obtain ⟨_, sL2, oL2, lL2⟩ := pg_facts hL2
  have HE6 : Hid (Env (B11 a0 bp7 a2 b9 b10 a5 bm7 m8 b8 c9 c10) { x with p := loaded x.s.pg 1 false } { d with F := d.G, ra := d.sa, rb := d.sb } (2000 + 2 * (k + 1)) w (w9.setCells a2 0 L1)) := by
    have h9 := HE5.out.setNow HN8.out.1 HN8.out.2 (HTa.out.mono (by omega)) L1 hL1.symm
    rw [upB7] at h9
    exact h9
  have HTb : Hid (Texts m9 2000 d.G (w9.setCells a2 0 L1)) := HT9.out.only (Only.setCells a2 L1 0 w9) (fun e => HN9.out.1 2 (by omega) e)
  have HNb : Hid (∀ i, i < 11 → m9 ≠ B11 a0 bp7 a2 b9 b10 a5 bm7 m8 b8 c9 c10 i) := fun i hi => by
    rw [← upB7 (a7 := b7) m8]
    unfold upB
    split
    · exact HNm.out
    · exact HN9.out.1 i hi
  have HE7 : Hid (Env (B11 a0 bp7 a2 b9 b10 a5 bm7 m8 b8 m9 c10) { x with p := loaded x.s.pg 1 false } { d with F := d.G, ra := d.sa, rb := d.sb, H := d.G, na := d.sa, nb := d.sb } (2000 + 2 * (k + 1)) w ((w9.setCells a2 0 L1).setCells b10 0 L2)) := by
    have h9 := HE6.out.setNoted HNb.out HN9.out.2 (HTb.out.mono (by omega)) L2 hL2.symm
    rw [upB9] at h9
    exact h9
  have T1 : w9.there a2 0 L1.toArray.size := HE5.out.nowS.there (by rw [List.size_toArray, lL1])
  have T2 : (w9.setCells a2 0 L1).there b10 0 L2.toArray.size := HE6.out.notS.there (by rw [List.size_toArray, lL2])
  have g5 : (w9.setCells a2 0 L1).rangeAt b9 0 KK := by rw [← hKK]; exact HE6.out.savR
  have g6 : ((w9.setCells a2 0 L1).setCells b10 0 L2).rangeAt b9 0 KK := by rw [← hKK]; exact HE7.out.savR
  rw [hL1, hL2]
  refine wpAnyH_ready (rs := [4]) (by kernel_rfl) (by decide) (AllReadyH.cons (o := { dst := none, op := Op.store 38 (Operand.tmp 8) (Operand.tmp 245), type := 0, pos := "law.go:214", after := #[{ on := 1, ground := Ground.data }, { on := 3, ground := Ground.chain }, { on := 0, ground := Ground.phase }, { on := 1, ground := Ground.phase }, { on := 2, ground := Ground.textOnly Departure.lateStores }, { on := 3, ground := Ground.phase }], guard := none }) rfl (fun K hK => ?_) AllReadyH.nil)
  rw [if_pos (by rfl)]
  refine wp_store_mid 38 _ _ rfl _ 0 L1.toArray rfl rfl T1 sL1 oL1 ?_
  refine hK.out _ _ (g5) (fun g3 => ?_)
  clear hK K
  simp only [Act.put]
  refine wpAnyH_ready (rs := [5]) (by kernel_rfl) (by decide) (AllReadyH.cons (o := { dst := none, op := Op.store 38 (Operand.tmp 10) (Operand.tmp 247), type := 0, pos := "law.go:214", after := #[{ on := 3, ground := Ground.data }, { on := 4, ground := Ground.chain }, { on := 0, ground := Ground.phase }, { on := 1, ground := Ground.phase }, { on := 2, ground := Ground.phase }, { on := 3, ground := Ground.phase }, { on := 4, ground := Ground.phase }], guard := none }) rfl (fun K hK => ?_) AllReadyH.nil)
  rw [if_pos (by rfl)]
  refine wp_store_mid 38 _ _ rfl _ 0 L2.toArray rfl rfl T2 sL2 oL2 ?_
  refine hK.out _ _ (g6) (fun g4 => ?_)
  clear hK K
  simp only [Act.put]
  refine wpAnyH_done (by kernel_rfl) ?_ _
  obtain ⟨wy, hwy⟩ : ∃ wy, (w9.setCells a2 0 L1).setCells b10 0 L2 = wy := ⟨_, rfl⟩
  rw [hwy]
  rw [hwy] at HE7
  clear g0 g1 g2 g3 g4 g5 g6 T1 T2 HE3 HE4 HE5 HE6 HTa HTb HT8 HT9 HNb HN8 HN9 HNm hwy HKr
  go_wp2_with fail
  refine (mark_any HE7.out.pgr).mono ?_
  rintro _ w10 ⟨m10, rfl, hm10, hS10, hb10⟩
  obtain ⟨V10, hV10⟩ : ∃ V, markL (loaded x.s.pg 1 false).used (loaded x.s.pg 1 false).rp (loaded x.s.pg 1 false).rn m10 (loaded x.s.pg 1 false).commits = V := ⟨_, rfl⟩
  obtain ⟨_, sV10, oV10, lV10⟩ := mk_facts hV10
  have HT10 : Hid (w10.there a5 0 V10.toArray.size) := (HE7.out.step hb10).mrkS.there (by rw [List.size_toArray, lV10])
  have HE10 : Hid (Env (B11 a0 bp7 a2 b9 b10 a5 bm7 m8 b8 m9 m10) { x with p := loaded x.s.pg 1 false, q := loaded x.s.pg 1 false, c := 1, fresh := true } { d with F := d.G, ra := d.sa, rb := d.sb, H := d.G, na := d.sa, nb := d.sb } (2000 + 2 * (k + 1)) w (w10.setCells a5 0 V10)) := by
    have h9 := (HE7.out.step hb10).setMark (HE7.out.new hm10).1 (HE7.out.new hm10).2 hS10 V10 hV10.symm
    rw [upB10] at h9
    exact h9
  rw [hV10]
  clear hS10 hm10 hb10 lV10 hV10
  obtain ⟨wz10, hwz10⟩ : ∃ wz, w10.setCells a5 0 V10 = wz := ⟨_, rfl⟩
  rw [hwz10] at HE10
  go_wp2_with (refine wpList_store_mid rfl 48 _ _ rfl a5 0 V10.toArray rfl rfl HT10.out sV10 oV10 ?_; rw [hwz10])
  clear hwz10 HT10
  exact HQ.out bp7 bm7 m8 b8 m9 m10 { x with p := loaded x.s.pg 1 false, q := loaded x.s.pg 1 false, c := 1, fresh := true } { d with F := d.G, ra := d.sa, rb := d.sb, H := d.G, na := d.sa, nb := d.sb } _ _ _ _ _ _ _ _ _ _ _ _ _ _ _ _ _ _ _ _ _ _ _ _ _ _ _ _ _ _ _ _ _ _ _ _ _ _ _ _ _ _ _ _ _ _ _ _ _ _ _ _ _ _ _ _ _ _ _ _ _ _ _ _ _ _ _ _ _ _ _ _ _ _ _ _ _ _ _ _ _ _ _ _ _ _ _ _ _ _ _ _ _ _ _ _ _ _ _ _ _ _ _ _ _ _ _ _ _ _ _ _ _ _ _ _ _ _ _ _ _ _ _ _ _ _ _ _ _ _ _ _ _ _ _ _ _ _ _ _ _ _ _ _ _ _ _ _ _ _ _ _ _ _ _ _ _ _ _ _ _ _ _ _ _ _ _ _ _ _ _ _ _ rfl HE10 HA.out.opened (HFw.out.opened.mono (by omega))
end Go.Proofs.YtjnjjpdgifnnpaaGreatDoor
namespace Go.Proofs.YtjnjjpdgifnnpaaGreatDoor
open Go.RowKit Go.Maps
set_option maxRecDepth 100000 in
set_option maxHeartbeats 20000000 in
theorem case9 {Q : Exit → Act → World → Prop} {v0 v1 v2 v5 v6 v7 v13 v15 v18 v19 v20 v21 v22 v23 v24 v25 v26 v27 v28 v29 v30 v31 v32 v33 v34 v35 v36 v37 v38 v39 v40 v41 v42 v43 v44 v45 v46 v47 v48 v49 v50 v51 v52 v53 v54 v55 v56 v57 v58 v59 v60 v61 v62 v63 v64 v65 v66 v67 v68 v69 v70 v71 v72 v73 v74 v75 v76 v77 v78 v79 v80 v81 v82 v84 v85 v86 v87 v88 v89 v90 v91 v92 v93 v94 v95 v96 v97 v98 v99 v100 v101 v102 v103 v104 v105 v106 v107 v108 v109 v110 v111 v112 v113 v114 v115 v116 v117 v118 v119 v120 v121 v122 v123 v124 v125 v126 v127 v128 v129 v130 v131 v132 v133 v134 v135 v136 v137 v138 v139 v140 v141 v142 v143 v144 v145 v146 v147 v148 v149 v150 v151 v152 v153 v154 v155 v156 v157 v158 v159 v160 v161 v162 v163 v164 v165 v166 v167 v168 v169 v170 v171 v172 v173 v174 v175 v176 v177 v178 v179 v180 v181 v182 v183 v184 v185 v186 v187 v188 v189 v190 v191 v192 v193 v194 v195 v196 v197 v198 v199 v200 v201 v202 v203 v204 v205 v206 v207 v208 v209 v210 v211 v212 v213 v214 v215 v216 v217 v218 v219 v220 v221 v222 v223 v224 v225 v226 v227 v228 v229 v230 v231 v232 v233 v234 v235 v236 v237 v238 v239 v240 v241 v242 v243 v244 v245 v246 v247 v248 v249 v250 v251 v252 v253 v254 v255 v256 v257 v258 v259 v260 v261 v262 v263 v264 v265 v266 v267 v268 v269 v270 v271 v272 v273 v274 v275 v276 v277 v278 v279 v280 v281 v282 v283 v284 v285 v286 v287 v288 v289 v290 v291 v292 v293 v294 v295 v296 v297 v298 v299 v300 v301 v302 v303 v304 v305 v306 v307 v308 v309 v310 v311 v312 v313 v314 v315 v316 v317 v318 v319 v320 v321 v322 v323 v324 v325 v326 v327 v328 v329 v330 v331 : Value} {a0 b1 a2 b9 b10 a5 b6 b7 b8 c9 c10 bx k : Nat} {x : Ps} {d : Dc} {a c t : Int} {u f : Bool} {w wx : World} {q : Int} (q0 : (q == 0) = false) (q1 : (q == 1) = false) (q2 : (q == 2) = false) (q3 : (q == 3) = false) (q4 : (q == 4) = false) (q5 : (q == 5) = false) (q6 : (q == 6) = false) (q7 : (q == 7) = false) (q8 : (q == 8) = false)
    (hk50 : k < 50) (HW : Hid (HG w)) (HE1 : Hid (Env (B11 a0 b1 a2 b9 b10 a5 b6 b7 b8 c9 c10) x d (2000 + 2 * k) w wx)) (HX : Hid (Xrow bx q a c t wx)) (HBx : Hid (∀ i, i < 11 → B11 a0 b1 a2 b9 b10 a5 b6 b7 b8 c9 c10 i < bx)) (HA : Hid (Alike x d)) (HFw : Hid (Few k x)) (HUse : Hid ((fi d.F a).isSome = u)) (hff : Hid (f = x.fresh)) (hP : ∀ (c : List PanicEntry) (a : Act) (d : Option Tmp) (v : Value) (w : World), Q (.panic c) (a.put d v) w → Q (.panic c) a w)
    (hQ : ∀ (e1 e6 e7 e8 e9 e10 : Nat) (x : Ps) (d : Dc) (wz : World) (g : Bool) (y2 y5 y17 y18 y19 y84 y85 y86 y87 y88 y89 y90 y91 y92 y93 y94 y95 y96 y97 y98 y99 y100 y101 y102 y103 y104 y105 y106 y107 y108 y109 y110 y111 y112 y113 y114 y115 y116 y117 y118 y119 y120 y121 y122 y123 y124 y125 y126 y127 y128 y129 y130 y131 y132 y133 y134 y135 y136 y137 y138 y139 y140 y141 y142 y143 y144 y145 y146 y147 y148 y149 y150 y151 y152 y153 y154 y155 y156 y157 y158 y159 y160 y161 y162 y163 y164 y165 y166 y167 y168 y169 y170 y171 y172 y173 y174 y175 y176 y177 y178 y179 y180 y181 y182 y183 y184 y185 y186 y187 y188 y189 y190 y191 y192 y193 y194 y195 y196 y197 y198 y199 y200 y201 y202 y203 y204 y205 y206 y207 y208 y209 y210 y211 y212 y213 y214 y215 y216 y217 y218 y219 y220 y221 y222 y223 y224 y225 y226 y227 y228 y229 y230 y231 y232 y233 y234 y235 y236 y237 y238 y239 y240 y241 y242 y243 y244 y245 y246 y247 y248 y249 : Value), g = x.fresh → Hid (Env (B11 a0 e1 a2 b9 b10 a5 e6 e7 e8 e9 e10) x d (2000 + 2 * (k + 1)) w wz) → Hid (Alike x d) → Hid (Few (k + 1) x) → Q .normal { tmps := #[v0, v1, y2, .pointer (some ⟨a0, 0, none⟩), .pointer (some ⟨e1, 0, none⟩), y5, v6, v7, .pointer (some ⟨a2, 0, none⟩), .pointer (some ⟨b9, 0, none⟩), .pointer (some ⟨b10, 0, none⟩), .pointer (some ⟨a5, 0, none⟩), .bool g, v13, .pointer (some ⟨bx, 0, none⟩), v15, .bool u, y17, y18, y19, v20, v21, v22, v23, v24, v25, v26, v27, v28, v29, v30, v31, v32, v33, v34, v35, v36, v37, v38, v39, v40, v41, v42, v43, v44, v45, v46, v47, v48, v49, v50, v51, v52, v53, v54, v55, v56, v57, v58, v59, v60, v61, v62, v63, v64, v65, v66, v67, v68, v69, v70, v71, v72, v73, v74, v75, v76, v77, v78, v79, v80, v81, v82, .int .i64 q, y84, y85, y86, y87, y88, y89, y90, y91, y92, y93, y94, y95, y96, y97, y98, y99, y100, y101, y102, y103, y104, y105, y106, y107, y108, y109, y110, y111, y112, y113, y114, y115, y116, y117, y118, y119, y120, y121, y122, y123, y124, y125, y126, y127, y128, y129, y130, y131, y132, y133, y134, y135, y136, y137, y138, y139, y140, y141, y142, y143, y144, y145, y146, y147, y148, y149, y150, y151, y152, y153, y154, y155, y156, y157, y158, y159, y160, y161, y162, y163, y164, y165, y166, y167, y168, y169, y170, y171, y172, y173, y174, y175, y176, y177, y178, y179, y180, y181, y182, y183, y184, y185, y186, y187, y188, y189, y190, y191, y192, y193, y194, y195, y196, y197, y198, y199, y200, y201, y202, y203, y204, y205, y206, y207, y208, y209, y210, y211, y212, y213, y214, y215, y216, y217, y218, y219, y220, y221, y222, y223, y224, y225, y226, y227, y228, y229, y230, y231, y232, y233, y234, y235, y236, y237, y238, y239, y240, y241, y242, y243, y244, y245, y246, y247, y248, y249, v250, v251, v252, v253, v254, v255, v256, v257, v258, v259, v260, v261, v262, v263, v264, v265, v266, v267, v268, v269, v270, v271, v272, v273, v274, v275, v276, v277, v278, v279, v280, v281, v282, v283, v284, v285, v286, v287, v288, v289, v290, v291, v292, v293, v294, v295, v296, v297, v298, v299, v300, v301, v302, v303, v304, v305, v306, v307, v308, v309, v310, v311, v312, v313, v314, v315, v316, v317, v318, v319, v320, v321, v322, v323, v324, v325, v326, v327, v328, v329, v330, v331], defers := [] } wz) :
    Code.wp Tryz.prog swCode Q { tmps := #[v0, v1, v2, .pointer (some ⟨a0, 0, none⟩), .pointer (some ⟨b1, 0, none⟩), v5, v6, v7, .pointer (some ⟨a2, 0, none⟩), .pointer (some ⟨b9, 0, none⟩), .pointer (some ⟨b10, 0, none⟩), .pointer (some ⟨a5, 0, none⟩), .bool f, v13, .pointer (some ⟨bx, 0, none⟩), v15, .bool u, .int .i64 2, v18, v19, v20, v21, v22, v23, v24, v25, v26, v27, v28, v29, v30, v31, v32, v33, v34, v35, v36, v37, v38, v39, v40, v41, v42, v43, v44, v45, v46, v47, v48, v49, v50, v51, v52, v53, v54, v55, v56, v57, v58, v59, v60, v61, v62, v63, v64, v65, v66, v67, v68, v69, v70, v71, v72, v73, v74, v75, v76, v77, v78, v79, v80, v81, v82, .int .i64 q, v84, v85, v86, v87, v88, v89, v90, v91, v92, v93, v94, v95, v96, v97, v98, v99, v100, v101, v102, v103, v104, v105, v106, v107, v108, v109, v110, v111, v112, v113, v114, v115, v116, v117, v118, v119, v120, v121, v122, v123, v124, v125, v126, v127, v128, v129, v130, v131, v132, v133, v134, v135, v136, v137, v138, v139, v140, v141, v142, v143, v144, v145, v146, v147, v148, v149, v150, v151, v152, v153, v154, v155, v156, v157, v158, v159, v160, v161, v162, v163, v164, v165, v166, v167, v168, v169, v170, v171, v172, v173, v174, v175, v176, v177, v178, v179, v180, v181, v182, v183, v184, v185, v186, v187, v188, v189, v190, v191, v192, v193, v194, v195, v196, v197, v198, v199, v200, v201, v202, v203, v204, v205, v206, v207, v208, v209, v210, v211, v212, v213, v214, v215, v216, v217, v218, v219, v220, v221, v222, v223, v224, v225, v226, v227, v228, v229, v230, v231, v232, v233, v234, v235, v236, v237, v238, v239, v240, v241, v242, v243, v244, v245, v246, v247, v248, v249, v250, v251, v252, v253, v254, v255, v256, v257, v258, v259, v260, v261, v262, v263, v264, v265, v266, v267, v268, v269, v270, v271, v272, v273, v274, v275, v276, v277, v278, v279, v280, v281, v282, v283, v284, v285, v286, v287, v288, v289, v290, v291, v292, v293, v294, v295, v296, v297, v298, v299, v300, v301, v302, v303, v304, v305, v306, v307, v308, v309, v310, v311, v312, v313, v314, v315, v316, v317, v318, v319, v320, v321, v322, v323, v324, v325, v326, v327, v328, v329, v330, v331], defers := [] } wx := by
  have HQ : Hid _ := hQ
  have HP : Hid _ := hP
  clear hQ hP
  have _u1 := HW
  have _u2 := HBx
  have _u3 := HUse
  have _u4 := hff
  have _u5 := HP
  have _u6 := hk50
  have x0 := HX.out.q
  unfold swCode
  go_wp2_with fail
  exact HQ.out b1 b6 b7 b8 c9 c10 x d _ _ _ _ _ _ _ _ _ _ _ _ _ _ _ _ _ _ _ _ _ _ _ _ _ _ _ _ _ _ _ _ _ _ _ _ _ _ _ _ _ _ _ _ _ _ _ _ _ _ _ _ _ _ _ _ _ _ _ _ _ _ _ _ _ _ _ _ _ _ _ _ _ _ _ _ _ _ _ _ _ _ _ _ _ _ _ _ _ _ _ _ _ _ _ _ _ _ _ _ _ _ _ _ _ _ _ _ _ _ _ _ _ _ _ _ _ _ _ _ _ _ _ _ _ _ _ _ _ _ _ _ _ _ _ _ _ _ _ _ _ _ _ _ _ _ _ _ _ _ _ _ _ _ _ _ _ _ _ _ _ _ _ _ _ _ _ _ _ _ _ _ _ hff.out (HE1.out.mono (by omega)) HA (HFw.out.mono (by omega))
end Go.Proofs.YtjnjjpdgifnnpaaGreatDoor
