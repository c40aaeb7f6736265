/- Texts of the proof of PagerPlays: Pc3. -/
import Derived.Test.YtjnjjpdgifnnpaaGreatDoorM06
import Derived.Deep.DeepCutAuto
import Derived.Deep.CutBlock
import Derived.BigQuiet
namespace Go.Proofs.YtjnjjpdgifnnpaaGreatDoor
open Go.RowKit Go.Maps
set_option maxRecDepth 100000 in
set_option maxHeartbeats 20000000 in
theorem case3 {Q : Exit → Act → World → Prop} {v0 v1 v2 v5 v6 v7 v13 v15 v18 v19 v20 v21 v22 v23 v24 v25 v26 v27 v28 v29 v30 v31 v32 v33 v34 v35 v36 v37 v38 v39 v40 v41 v42 v43 v44 v45 v46 v47 v48 v49 v50 v51 v52 v53 v54 v55 v56 v57 v58 v59 v60 v61 v62 v63 v64 v65 v66 v67 v68 v69 v70 v71 v72 v73 v74 v75 v76 v77 v78 v79 v80 v81 v82 v84 v85 v86 v87 v88 v89 v90 v91 v92 v93 v94 v95 v96 v97 v98 v99 v100 v101 v102 v103 v104 v105 v106 v107 v108 v109 v110 v111 v112 v113 v114 v115 v116 v117 v118 v119 v120 v121 v122 v123 v124 v125 v126 v127 v128 v129 v130 v131 v132 v133 v134 v135 v136 v137 v138 v139 v140 v141 v142 v143 v144 v145 v146 v147 v148 v149 v150 v151 v152 v153 v154 v155 v156 v157 v158 v159 v160 v161 v162 v163 v164 v165 v166 v167 v168 v169 v170 v171 v172 v173 v174 v175 v176 v177 v178 v179 v180 v181 v182 v183 v184 v185 v186 v187 v188 v189 v190 v191 v192 v193 v194 v195 v196 v197 v198 v199 v200 v201 v202 v203 v204 v205 v206 v207 v208 v209 v210 v211 v212 v213 v214 v215 v216 v217 v218 v219 v220 v221 v222 v223 v224 v225 v226 v227 v228 v229 v230 v231 v232 v233 v234 v235 v236 v237 v238 v239 v240 v241 v242 v243 v244 v245 v246 v247 v248 v249 v250 v251 v252 v253 v254 v255 v256 v257 v258 v259 v260 v261 v262 v263 v264 v265 v266 v267 v268 v269 v270 v271 v272 v273 v274 v275 v276 v277 v278 v279 v280 v281 v282 v283 v284 v285 v286 v287 v288 v289 v290 v291 v292 v293 v294 v295 v296 v297 v298 v299 v300 v301 v302 v303 v304 v305 v306 v307 v308 v309 v310 v311 v312 v313 v314 v315 v316 v317 v318 v319 v320 v321 v322 v323 v324 v325 v326 v327 v328 v329 v330 v331 : Value} {a0 b1 a2 b9 b10 a5 b6 b7 b8 c9 c10 bx k : Nat} {x : Ps} {d : Dc} {a c t : Int} {u f : Bool} {w wx : World}
    (hk50 : k < 50) (HW : Hid (HG w)) (HE1 : Hid (Env (B11 a0 b1 a2 b9 b10 a5 b6 b7 b8 c9 c10) x d (2000 + 2 * k) w wx)) (HX : Hid (Xrow bx 3 a c t wx)) (HBx : Hid (∀ i, i < 11 → B11 a0 b1 a2 b9 b10 a5 b6 b7 b8 c9 c10 i < bx)) (HA : Hid (Alike x d)) (HFw : Hid (Few k x)) (HUse : Hid ((fi d.F a).isSome = u)) (hff : Hid (f = x.fresh)) (hP : ∀ (c : List PanicEntry) (a : Act) (d : Option Tmp) (v : Value) (w : World), Q (.panic c) (a.put d v) w → Q (.panic c) a w)
    (hQ : ∀ (e1 e6 e7 e8 e9 e10 : Nat) (x : Ps) (d : Dc) (wz : World) (g : Bool) (y2 y5 y17 y18 y19 y84 y85 y86 y87 y88 y89 y90 y91 y92 y93 y94 y95 y96 y97 y98 y99 y100 y101 y102 y103 y104 y105 y106 y107 y108 y109 y110 y111 y112 y113 y114 y115 y116 y117 y118 y119 y120 y121 y122 y123 y124 y125 y126 y127 y128 y129 y130 y131 y132 y133 y134 y135 y136 y137 y138 y139 y140 y141 y142 y143 y144 y145 y146 y147 y148 y149 y150 y151 y152 y153 y154 y155 y156 y157 y158 y159 y160 y161 y162 y163 y164 y165 y166 y167 y168 y169 y170 y171 y172 y173 y174 y175 y176 y177 y178 y179 y180 y181 y182 y183 y184 y185 y186 y187 y188 y189 y190 y191 y192 y193 y194 y195 y196 y197 y198 y199 y200 y201 y202 y203 y204 y205 y206 y207 y208 y209 y210 y211 y212 y213 y214 y215 y216 y217 y218 y219 y220 y221 y222 y223 y224 y225 y226 y227 y228 y229 y230 y231 y232 y233 y234 y235 y236 y237 y238 y239 y240 y241 y242 y243 y244 y245 y246 y247 y248 y249 : Value), g = x.fresh → Hid (Env (B11 a0 e1 a2 b9 b10 a5 e6 e7 e8 e9 e10) x d (2000 + 2 * (k + 1)) w wz) → Hid (Alike x d) → Hid (Few (k + 1) x) → Q .normal { tmps := #[v0, v1, y2, .pointer (some ⟨a0, 0, none⟩), .pointer (some ⟨e1, 0, none⟩), y5, v6, v7, .pointer (some ⟨a2, 0, none⟩), .pointer (some ⟨b9, 0, none⟩), .pointer (some ⟨b10, 0, none⟩), .pointer (some ⟨a5, 0, none⟩), .bool g, v13, .pointer (some ⟨bx, 0, none⟩), v15, .bool u, y17, y18, y19, v20, v21, v22, v23, v24, v25, v26, v27, v28, v29, v30, v31, v32, v33, v34, v35, v36, v37, v38, v39, v40, v41, v42, v43, v44, v45, v46, v47, v48, v49, v50, v51, v52, v53, v54, v55, v56, v57, v58, v59, v60, v61, v62, v63, v64, v65, v66, v67, v68, v69, v70, v71, v72, v73, v74, v75, v76, v77, v78, v79, v80, v81, v82, .int .i64 3, y84, y85, y86, y87, y88, y89, y90, y91, y92, y93, y94, y95, y96, y97, y98, y99, y100, y101, y102, y103, y104, y105, y106, y107, y108, y109, y110, y111, y112, y113, y114, y115, y116, y117, y118, y119, y120, y121, y122, y123, y124, y125, y126, y127, y128, y129, y130, y131, y132, y133, y134, y135, y136, y137, y138, y139, y140, y141, y142, y143, y144, y145, y146, y147, y148, y149, y150, y151, y152, y153, y154, y155, y156, y157, y158, y159, y160, y161, y162, y163, y164, y165, y166, y167, y168, y169, y170, y171, y172, y173, y174, y175, y176, y177, y178, y179, y180, y181, y182, y183, y184, y185, y186, y187, y188, y189, y190, y191, y192, y193, y194, y195, y196, y197, y198, y199, y200, y201, y202, y203, y204, y205, y206, y207, y208, y209, y210, y211, y212, y213, y214, y215, y216, y217, y218, y219, y220, y221, y222, y223, y224, y225, y226, y227, y228, y229, y230, y231, y232, y233, y234, y235, y236, y237, y238, y239, y240, y241, y242, y243, y244, y245, y246, y247, y248, y249, v250, v251, v252, v253, v254, v255, v256, v257, v258, v259, v260, v261, v262, v263, v264, v265, v266, v267, v268, v269, v270, v271, v272, v273, v274, v275, v276, v277, v278, v279, v280, v281, v282, v283, v284, v285, v286, v287, v288, v289, v290, v291, v292, v293, v294, v295, v296, v297, v298, v299, v300, v301, v302, v303, v304, v305, v306, v307, v308, v309, v310, v311, v312, v313, v314, v315, v316, v317, v318, v319, v320, v321, v322, v323, v324, v325, v326, v327, v328, v329, v330, v331], defers := [] } wz) :
    Code.wp Tryz.prog swCode Q { tmps := #[v0, v1, v2, .pointer (some ⟨a0, 0, none⟩), .pointer (some ⟨b1, 0, none⟩), v5, v6, v7, .pointer (some ⟨a2, 0, none⟩), .pointer (some ⟨b9, 0, none⟩), .pointer (some ⟨b10, 0, none⟩), .pointer (some ⟨a5, 0, none⟩), .bool f, v13, .pointer (some ⟨bx, 0, none⟩), v15, .bool u, .int .i64 2, v18, v19, v20, v21, v22, v23, v24, v25, v26, v27, v28, v29, v30, v31, v32, v33, v34, v35, v36, v37, v38, v39, v40, v41, v42, v43, v44, v45, v46, v47, v48, v49, v50, v51, v52, v53, v54, v55, v56, v57, v58, v59, v60, v61, v62, v63, v64, v65, v66, v67, v68, v69, v70, v71, v72, v73, v74, v75, v76, v77, v78, v79, v80, v81, v82, .int .i64 3, v84, v85, v86, v87, v88, v89, v90, v91, v92, v93, v94, v95, v96, v97, v98, v99, v100, v101, v102, v103, v104, v105, v106, v107, v108, v109, v110, v111, v112, v113, v114, v115, v116, v117, v118, v119, v120, v121, v122, v123, v124, v125, v126, v127, v128, v129, v130, v131, v132, v133, v134, v135, v136, v137, v138, v139, v140, v141, v142, v143, v144, v145, v146, v147, v148, v149, v150, v151, v152, v153, v154, v155, v156, v157, v158, v159, v160, v161, v162, v163, v164, v165, v166, v167, v168, v169, v170, v171, v172, v173, v174, v175, v176, v177, v178, v179, v180, v181, v182, v183, v184, v185, v186, v187, v188, v189, v190, v191, v192, v193, v194, v195, v196, v197, v198, v199, v200, v201, v202, v203, v204, v205, v206, v207, v208, v209, v210, v211, v212, v213, v214, v215, v216, v217, v218, v219, v220, v221, v222, v223, v224, v225, v226, v227, v228, v229, v230, v231, v232, v233, v234, v235, v236, v237, v238, v239, v240, v241, v242, v243, v244, v245, v246, v247, v248, v249, v250, v251, v252, v253, v254, v255, v256, v257, v258, v259, v260, v261, v262, v263, v264, v265, v266, v267, v268, v269, v270, v271, v272, v273, v274, v275, v276, v277, v278, v279, v280, v281, v282, v283, v284, v285, v286, v287, v288, v289, v290, v291, v292, v293, v294, v295, v296, v297, v298, v299, v300, v301, v302, v303, v304, v305, v306, v307, v308, v309, v310, v311, v312, v313, v314, v315, v316, v317, v318, v319, v320, v321, v322, v323, v324, v325, v326, v327, v328, v329, v330, v331], defers := [] } wx := by
  have HQ : Hid _ := hQ
  have HP : Hid _ := hP
  clear hQ hP
  have _u1 := HW
  have _u2 := HBx
  have _u3 := HUse
  have _u4 := hff
  have _u5 := HP
  have _u6 := hk50
  have x0 := HX.out.q
  unfold swCode
  have x1 := HX.out.a
  have x2 := HX.out.n
  have x3 := HX.out.t
  by_cases hh : inB a 8 = true ∧ inB c 2000 = true ∧ inB t 65536 = true
  · as_aux_lemma =>
      obtain ⟨ha, hc, ht⟩ := hh
      have HI : Hid (inB c 2000 = true ∧ inB t 65536 = true) := ⟨hc, ht⟩
      have ha' : 0 ≤ a ∧ a < 8 := by simpa [inB] using ha
      have hc' : 0 ≤ c ∧ c < 2000 := by simpa [inB] using hc
      have ht' : 0 ≤ t ∧ t < 65536 := by simpa [inB] using ht
      obtain ⟨c0, c2⟩ := hc'
      obtain ⟨t0, t6⟩ := ht'
      obtain ⟨i, rfl⟩ : ∃ i : Nat, a = i := ⟨a.toNat, by omega⟩
      have hi : i < 8 := by omega
      have i8 : (i : Int) < 8 := by omega
      clear ha hc ht ha'
      have hS2 : Room a2 17 wx := HE1.out.nowS
      obtain ⟨v1, hv1⟩ := Option.isSome_iff_exists.1 (hS2.has (1 + i * 2) (by omega))
      obtain ⟨v2, hv2⟩ := Option.isSome_iff_exists.1 (hS2.has (1 + i * 2 + 1) (by omega))
      have f1 := hS2.free (1 + i * 2)
      have f2 := hS2.free (1 + i * 2 + 1)
      have HE2 : Hid (Env (B11 a0 b1 a2 b9 b10 a5 b6 b7 b8 c9 c10) x { d with ra := fun j => if j = i then c else d.ra j, rb := fun j => if j = i then t else d.rb j } (2000 + 2 * k) w ((wx.setCell ⟨a2, 1 + i * 2, none⟩ (.int .i64 c)).setCell ⟨a2, 1 + i * 2 + 1, none⟩ (.int .i64 t))) := HE1.out.setRootN i hi c t
      obtain ⟨w7, hw7⟩ : ∃ w7, (wx.setCell ⟨a2, 1 + i * 2, none⟩ (.int .i64 c)).setCell ⟨a2, 1 + i * 2 + 1, none⟩ (.int .i64 t) = w7 := ⟨_, rfl⟩
      have hO7 : Only (fun b => b = a2) wx w7 := by rw [← hw7]; exact (Only.set a2 _ _ wx).trans (Only.set a2 _ _ _) (fun _ e => .inl e)
      rw [hw7] at HE2
      have HX2 : Hid (Xrow bx 3 (i : Int) c t w7) := HX.out.only hO7 (fun e => Nat.lt_irrefl _ (e ▸ HBx.out 2 (by omega)))
      have y1 := HX2.out.a
      have y2 := HX2.out.n
      have y3 := HX2.out.t
      clear hS2 hO7
      go_wp2_with fail
      refine (setRoot_yes (show Cells b1 a0 b6 _ w7 from HE2.out.pgr.cells) HE2.out.down i hi c t HI.out.1 HI.out.2).mono ?_
      rintro _ w8 ⟨rfl, hC8, hO8⟩
      have HE3 : Hid (Env (B11 a0 b1 a2 b9 b10 a5 b6 b7 b8 c9 c10) { x with p := x.p.setRoot i c t } { d with ra := fun j => if j = i then c else d.ra j, rb := fun j => if j = i then t else d.rb j } (2000 + 2 * (k + 1)) w w8) := (HE2.out.mono (show 2000 + 2 * k ≤ 2000 + 2 * (k + 1) by omega)).pager ⟨hC8, (HE2.out.pgr.own.only hO8 (fun e => HE2.out.inj 6 1 (by omega) (by omega) (by omega) e)).mono (by omega)⟩ (hO8.mono (fun _ e => .inl e)) (HE2.out.ok.setRoot i HI.out.1 HI.out.2) (fun _ _ => rfl) rfl rfl
      clear hC8 hO8 x1 x2 x3 y1 y2 y3 hv1 hv2 f1 f2 x0 hw7
      go_wp2_with fail
      refine (bare_any _ 0 _ (HE3.out.hg HW.out) (.inl ⟨rfl, rfl, rfl⟩)).mono ?_
      rintro _ w9 ⟨rfl, hb9⟩
      have HE4 : Hid (Env (B11 a0 b1 a2 b9 b10 a5 b6 b7 b8 c9 c10) { x with p := x.p.setRoot i c t } { d with ra := fun j => if j = i then c else d.ra j, rb := fun j => if j = i then t else d.rb j } (2000 + 2 * (k + 1)) w w9) := HE3.out.step hb9
      clear hb9
      go_wp2_with fail
      exact HQ.out b1 b6 b7 b8 c9 c10 { x with p := x.p.setRoot i c t } { d with ra := fun j => if j = i then c else d.ra j, rb := fun j => if j = i then t else d.rb j } _ _ _ _ _ _ _ _ _ _ _ _ _ _ _ _ _ _ _ _ _ _ _ _ _ _ _ _ _ _ _ _ _ _ _ _ _ _ _ _ _ _ _ _ _ _ _ _ _ _ _ _ _ _ _ _ _ _ _ _ _ _ _ _ _ _ _ _ _ _ _ _ _ _ _ _ _ _ _ _ _ _ _ _ _ _ _ _ _ _ _ _ _ _ _ _ _ _ _ _ _ _ _ _ _ _ _ _ _ _ _ _ _ _ _ _ _ _ _ _ _ _ _ _ _ _ _ _ _ _ _ _ _ _ _ _ _ _ _ _ _ _ _ _ _ _ _ _ _ _ _ _ _ _ _ _ _ _ _ _ _ _ _ _ _ _ _ _ _ _ _ _ _ hff.out HE4 (HA.out.setRoot i c t) ((HFw.out.setRoot i c t).mono (by omega))
  · have HNo : Hid (¬ (inB a 8 = true ∧ inB c 2000 = true ∧ inB t 65536 = true)) := hh
    clear hh
    by_cases z0 : 0 ≤ a
    · by_cases z1 : a < 8
      · by_cases z2 : 0 ≤ c
        · by_cases z3 : c < 2000
          · by_cases z4 : 0 ≤ t
            · by_cases z5 : t < 65536
              · exact absurd (⟨by simp [inB]; omega, by simp [inB]; omega, by simp [inB]; omega⟩ : inB a 8 = true ∧ inB c 2000 = true ∧ inB t 65536 = true) HNo.out
              · as_aux_lemma =>
                  go_wp2_with fail
                  refine (setRoot_no wx a c t HNo.out).mono ?_
                  rintro _ w8 ⟨rfl, hw8⟩
                  subst w8
                  go_wp2_with fail
                  refine (bare_any _ 2 _ (HE1.out.hg HW.out) (.inr (.inr ⟨rfl, rfl⟩))).mono ?_
                  rintro _ w9 ⟨rfl, hb9⟩
                  have HE4 : Hid (Env (B11 a0 b1 a2 b9 b10 a5 b6 b7 b8 c9 c10) x d (2000 + 2 * (k + 1)) w w9) := (HE1.out.step hb9).mono (by omega)
                  clear hb9 x1 x2 x3 x0
                  go_wp2_with fail
                  exact HQ.out b1 b6 b7 b8 c9 c10 x d _ _ _ _ _ _ _ _ _ _ _ _ _ _ _ _ _ _ _ _ _ _ _ _ _ _ _ _ _ _ _ _ _ _ _ _ _ _ _ _ _ _ _ _ _ _ _ _ _ _ _ _ _ _ _ _ _ _ _ _ _ _ _ _ _ _ _ _ _ _ _ _ _ _ _ _ _ _ _ _ _ _ _ _ _ _ _ _ _ _ _ _ _ _ _ _ _ _ _ _ _ _ _ _ _ _ _ _ _ _ _ _ _ _ _ _ _ _ _ _ _ _ _ _ _ _ _ _ _ _ _ _ _ _ _ _ _ _ _ _ _ _ _ _ _ _ _ _ _ _ _ _ _ _ _ _ _ _ _ _ _ _ _ _ _ _ _ _ _ _ _ _ _ hff.out HE4 HA (HFw.out.mono (by omega))
            · as_aux_lemma =>
                go_wp2_with fail
                refine (setRoot_no wx a c t HNo.out).mono ?_
                rintro _ w8 ⟨rfl, hw8⟩
                subst w8
                go_wp2_with fail
                refine (bare_any _ 2 _ (HE1.out.hg HW.out) (.inr (.inr ⟨rfl, rfl⟩))).mono ?_
                rintro _ w9 ⟨rfl, hb9⟩
                have HE4 : Hid (Env (B11 a0 b1 a2 b9 b10 a5 b6 b7 b8 c9 c10) x d (2000 + 2 * (k + 1)) w w9) := (HE1.out.step hb9).mono (by omega)
                clear hb9 x1 x2 x3 x0
                go_wp2_with fail
                exact HQ.out b1 b6 b7 b8 c9 c10 x d _ _ _ _ _ _ _ _ _ _ _ _ _ _ _ _ _ _ _ _ _ _ _ _ _ _ _ _ _ _ _ _ _ _ _ _ _ _ _ _ _ _ _ _ _ _ _ _ _ _ _ _ _ _ _ _ _ _ _ _ _ _ _ _ _ _ _ _ _ _ _ _ _ _ _ _ _ _ _ _ _ _ _ _ _ _ _ _ _ _ _ _ _ _ _ _ _ _ _ _ _ _ _ _ _ _ _ _ _ _ _ _ _ _ _ _ _ _ _ _ _ _ _ _ _ _ _ _ _ _ _ _ _ _ _ _ _ _ _ _ _ _ _ _ _ _ _ _ _ _ _ _ _ _ _ _ _ _ _ _ _ _ _ _ _ _ _ _ _ _ _ _ _ hff.out HE4 HA (HFw.out.mono (by omega))
          · as_aux_lemma =>
              go_wp2_with fail
              refine (setRoot_no wx a c t HNo.out).mono ?_
              rintro _ w8 ⟨rfl, hw8⟩
              subst w8
              go_wp2_with fail
              refine (bare_any _ 2 _ (HE1.out.hg HW.out) (.inr (.inr ⟨rfl, rfl⟩))).mono ?_
              rintro _ w9 ⟨rfl, hb9⟩
              have HE4 : Hid (Env (B11 a0 b1 a2 b9 b10 a5 b6 b7 b8 c9 c10) x d (2000 + 2 * (k + 1)) w w9) := (HE1.out.step hb9).mono (by omega)
              clear hb9 x1 x2 x3 x0
              go_wp2_with fail
              exact HQ.out b1 b6 b7 b8 c9 c10 x d _ _ _ _ _ _ _ _ _ _ _ _ _ _ _ _ _ _ _ _ _ _ _ _ _ _ _ _ _ _ _ _ _ _ _ _ _ _ _ _ _ _ _ _ _ _ _ _ _ _ _ _ _ _ _ _ _ _ _ _ _ _ _ _ _ _ _ _ _ _ _ _ _ _ _ _ _ _ _ _ _ _ _ _ _ _ _ _ _ _ _ _ _ _ _ _ _ _ _ _ _ _ _ _ _ _ _ _ _ _ _ _ _ _ _ _ _ _ _ _ _ _ _ _ _ _ _ _ _ _ _ _ _ _ _ _ _ _ _ _ _ _ _ _ _ _ _ _ _ _ _ _ _ _ _ _ _ _ _ _ _ _ _ _ _ _ _ _ _ _ _ _ _ hff.out HE4 HA (HFw.out.mono (by omega))
        · as_aux_lemma =>
            go_wp2_with fail
            refine (setRoot_no wx a c t HNo.out).mono ?_
            rintro _ w8 ⟨rfl, hw8⟩
            subst w8
            go_wp2_with fail
            refine (bare_any _ 2 _ (HE1.out.hg HW.out) (.inr (.inr ⟨rfl, rfl⟩))).mono ?_
            rintro _ w9 ⟨rfl, hb9⟩
            have HE4 : Hid (Env (B11 a0 b1 a2 b9 b10 a5 b6 b7 b8 c9 c10) x d (2000 + 2 * (k + 1)) w w9) := (HE1.out.step hb9).mono (by omega)
            clear hb9 x1 x2 x3 x0
            go_wp2_with fail
            exact HQ.out b1 b6 b7 b8 c9 c10 x d _ _ _ _ _ _ _ _ _ _ _ _ _ _ _ _ _ _ _ _ _ _ _ _ _ _ _ _ _ _ _ _ _ _ _ _ _ _ _ _ _ _ _ _ _ _ _ _ _ _ _ _ _ _ _ _ _ _ _ _ _ _ _ _ _ _ _ _ _ _ _ _ _ _ _ _ _ _ _ _ _ _ _ _ _ _ _ _ _ _ _ _ _ _ _ _ _ _ _ _ _ _ _ _ _ _ _ _ _ _ _ _ _ _ _ _ _ _ _ _ _ _ _ _ _ _ _ _ _ _ _ _ _ _ _ _ _ _ _ _ _ _ _ _ _ _ _ _ _ _ _ _ _ _ _ _ _ _ _ _ _ _ _ _ _ _ _ _ _ _ _ _ _ hff.out HE4 HA (HFw.out.mono (by omega))
      · as_aux_lemma =>
          go_wp2_with fail
          refine (setRoot_no wx a c t HNo.out).mono ?_
          rintro _ w8 ⟨rfl, hw8⟩
          subst w8
          go_wp2_with fail
          refine (bare_any _ 2 _ (HE1.out.hg HW.out) (.inr (.inr ⟨rfl, rfl⟩))).mono ?_
          rintro _ w9 ⟨rfl, hb9⟩
          have HE4 : Hid (Env (B11 a0 b1 a2 b9 b10 a5 b6 b7 b8 c9 c10) x d (2000 + 2 * (k + 1)) w w9) := (HE1.out.step hb9).mono (by omega)
          clear hb9 x1 x2 x3 x0
          go_wp2_with fail
          exact HQ.out b1 b6 b7 b8 c9 c10 x d _ _ _ _ _ _ _ _ _ _ _ _ _ _ _ _ _ _ _ _ _ _ _ _ _ _ _ _ _ _ _ _ _ _ _ _ _ _ _ _ _ _ _ _ _ _ _ _ _ _ _ _ _ _ _ _ _ _ _ _ _ _ _ _ _ _ _ _ _ _ _ _ _ _ _ _ _ _ _ _ _ _ _ _ _ _ _ _ _ _ _ _ _ _ _ _ _ _ _ _ _ _ _ _ _ _ _ _ _ _ _ _ _ _ _ _ _ _ _ _ _ _ _ _ _ _ _ _ _ _ _ _ _ _ _ _ _ _ _ _ _ _ _ _ _ _ _ _ _ _ _ _ _ _ _ _ _ _ _ _ _ _ _ _ _ _ _ _ _ _ _ _ _ hff.out HE4 HA (HFw.out.mono (by omega))
    · as_aux_lemma =>
        go_wp2_with fail
        refine (setRoot_no wx a c t HNo.out).mono ?_
        rintro _ w8 ⟨rfl, hw8⟩
        subst w8
        go_wp2_with fail
        refine (bare_any _ 2 _ (HE1.out.hg HW.out) (.inr (.inr ⟨rfl, rfl⟩))).mono ?_
        rintro _ w9 ⟨rfl, hb9⟩
        have HE4 : Hid (Env (B11 a0 b1 a2 b9 b10 a5 b6 b7 b8 c9 c10) x d (2000 + 2 * (k + 1)) w w9) := (HE1.out.step hb9).mono (by omega)
        clear hb9 x1 x2 x3 x0
        go_wp2_with fail
        exact HQ.out b1 b6 b7 b8 c9 c10 x d _ _ _ _ _ _ _ _ _ _ _ _ _ _ _ _ _ _ _ _ _ _ _ _ _ _ _ _ _ _ _ _ _ _ _ _ _ _ _ _ _ _ _ _ _ _ _ _ _ _ _ _ _ _ _ _ _ _ _ _ _ _ _ _ _ _ _ _ _ _ _ _ _ _ _ _ _ _ _ _ _ _ _ _ _ _ _ _ _ _ _ _ _ _ _ _ _ _ _ _ _ _ _ _ _ _ _ _ _ _ _ _ _ _ _ _ _ _ _ _ _ _ _ _ _ _ _ _ _ _ _ _ _ _ _ _ _ _ _ _ _ _ _ _ _ _ _ _ _ _ _ _ _ _ _ _ _ _ _ _ _ _ _ _ _ _ _ _ _ _ _ _ _ hff.out HE4 HA (HFw.out.mono (by omega))
end Go.Proofs.YtjnjjpdgifnnpaaGreatDoor
