/-
  Texts that stand together: Vrv.
-/
import Derived.Deep.DeepCutAuto
import Derived.Deep.CutRange
import Derived.Test.YtgfhjcbmilaegaaGreatDoorMg20
namespace Go.Proofs.YtgfhjcbmilaegaaGreatDoor
open Go.ChangeShapes Go.WideShapes Go.ChangeAt Go.RowKit Go.Deep
set_option linter.unusedVariables false
set_option maxRecDepth 1000000
set_option linter.unusedSimpArgs false
set_option maxHeartbeats 12800000 in
theorem tail36 {w wq : World} {Z1 : List Int} {Y : List Ct} {a1 : Option Addr} {len1 cap1 : Nat} {ya : Option Addr} {yc gg go9 gc hg ho9 hc9 : Nat} {gx gy gz hx hy hz : Int} {c0 c2 c3 c4 c8 c9 c10 c11 c12 c13 c14 c15 c16 c17 c18 c19 c20 c21 c22 c23 c24 c25 c26 c27 c28 c29 c30 c31 c32 c33 c34 c35 c36 c37 c38 c39 c40 c41 c42 c43 c44 c45 c46 c47 c48 c49 c50 c51 c52 c53 c54 c55 c56 c57 c58 c59 c60 c61 c62 c63 c64 c65 c66 c67 c68 c69 c70 c71 c72 c73 c74 c75 c76 c77 c78 c79 c80 c81 c82 c83 c84 c85 c86 c87 c88 c89 c90 c91 c92 c93 c94 c95 c96 c97 c98 c99 c100 c101 c102 c103 c104 c105 c106 c107 c108 c109 c110 c111 c112 c113 c114 c115 c116 c117 c118 c119 c120 c121 c122 c123 c124 c125 c126 c127 c128 c129 c130 c131 c132 c133 c134 c135 c136 c137 c138 c139 c140 c141 c142 c143 c144 c145 c146 c147 c148 c149 c150 c151 c152 c153 c154 c155 c156 c157 c158 c159 c160 c161 c162 c163 c164 c165 c166 c167 c168 c169 c170 c171 c172 c173 c174 c175 c176 c177 c178 c179 c180 c181 c182 c183 c184 c185 c186 c187 c188 c189 c190 c191 c192 c193 c194 c195 c196 c197 c198 c199 c200 c201 c202 c203 c204 c205 c206 c207 c208 c209 c210 c211 c212 c213 c214 c215 c216 c217 c218 c219 c220 c221 c222 c223 c224 c225 c226 c227 c228 c229 c230 c231 c232 c233 c234 c235 c236 c237 c238 c239 c240 c241 c242 c243 c244 c245 c246 c247 c248 c249 c250 c251 c252 c253 c254 c255 c256 c257 c258 c259 c260 c261 c262 c263 c264 c265 c266 c267 c268 c269 c270 c271 c272 c273 c274 c275 c276 c277 c278 c279 c280 c281 c282 c283 c284 c285 c286 c287 c288 c289 c290 c291 c292 c293 c294 c295 c296 c297 c298 c299 c300 c301 c302 c303 c304 c305 c306 c307 c308 c309 c310 c311 c312 c313 c314 c315 c316 c317 c318 c319 c320 c321 c322 c323 c324 c325 c326 c327 c328 c329 c330 c331 c332 c333 c334 c335 c336 c337 c338 c339 c340 c341 c342 c343 c344 c345 c346 c347 c348 c349 c350 c351 c352 c353 c354 c355 c356 c357 c358 c359 c360 c361 c362 c363 c364 c365 c366 c367 c368 c369 c370 c371 c372 c373 c374 c375 c376 c377 c378 c379 c380 c381 c382 c383 c384 c385 c386 c387 c388 c389 c390 c391 c392 c393 c394 c395 c396 c397 c398 c399 c400 c401 c402 c403 c404 c405 c406 c407 c408 c409 c410 c411 c412 c413 c414 c415 c416 c417 c418 c419 c420 c421 c422 c423 c424 c425 c426 c427 c428 c429 c430 c431 c432 c433 c434 c435 c436 c437 c438 c439 c440 c441 c442 c443 c444 c445 c446 c447 c448 c449 c450 c451 c452 c453 c454 c455 c456 c457 c458 c459 c460 c461 c462 c463 c464 c465 c466 c467 c468 c469 c470 c471 c472 c473 c474 c475 c476 c477 c478 c479 : Value}
    (hIn : VrIn w wq Z1 Y a1 len1 cap1 ya yc gg go9 gc hg ho9 hc9 gx gy gz hx hy hz)
    {K : Act → World → Prop} (hK : ∀ a w', Code.wp Tryz.prog ((Tryz.f3.body.bind (restAt 36)).getD .skip) (bodyPost Tryz.prog Tryz.f3 fun e w' => e = .returned (.bool true) ∧ Below w.heap.size w w') a w' → K a w') :
    Code.wp Tryz.prog ((Tryz.f3.body.bind (headAt 36)).getD .skip) (Exit.then K (bodyPost Tryz.prog Tryz.f3 fun e w' => e = .returned (.bool true) ∧ Below w.heap.size w w')) ⟨#[c0, .slice a1 len1 cap1, c2, c3, c4, .slice ya Y.length yc, .slice (some ⟨gg, go9, none⟩) 3 gc, .slice (some ⟨hg, ho9, none⟩) 3 hc9, c8, c9, c10, c11, c12, c13, c14, c15, c16, c17, c18, c19, c20, c21, c22, c23, c24, c25, c26, c27, c28, c29, c30, c31, c32, c33, c34, c35, c36, c37, c38, c39, c40, c41, c42, c43, c44, c45, c46, c47, c48, c49, c50, c51, c52, c53, c54, c55, c56, c57, c58, c59, c60, c61, c62, c63, c64, c65, c66, c67, c68, c69, c70, c71, c72, c73, c74, c75, c76, c77, c78, c79, c80, c81, c82, c83, c84, c85, c86, c87, c88, c89, c90, c91, c92, c93, c94, c95, c96, c97, c98, c99, c100, c101, c102, c103, c104, c105, c106, c107, c108, c109, c110, c111, c112, c113, c114, c115, c116, c117, c118, c119, c120, c121, c122, c123, c124, c125, c126, c127, c128, c129, c130, c131, c132, c133, c134, c135, c136, c137, c138, c139, c140, c141, c142, c143, c144, c145, c146, c147, c148, c149, c150, c151, c152, c153, c154, c155, c156, c157, c158, c159, c160, c161, c162, c163, c164, c165, c166, c167, c168, c169, c170, c171, c172, c173, c174, c175, c176, c177, c178, c179, c180, c181, c182, c183, c184, c185, c186, c187, c188, c189, c190, c191, c192, c193, c194, c195, c196, c197, c198, c199, c200, c201, c202, c203, c204, c205, c206, c207, c208, c209, c210, c211, c212, c213, c214, c215, c216, c217, c218, c219, c220, c221, c222, c223, c224, c225, c226, c227, c228, c229, c230, c231, c232, c233, c234, c235, c236, c237, c238, c239, c240, c241, c242, c243, c244, c245, c246, c247, c248, c249, c250, c251, c252, c253, c254, c255, c256, c257, c258, c259, c260, c261, c262, c263, c264, c265, c266, c267, c268, c269, c270, c271, c272, c273, c274, c275, c276, c277, c278, c279, c280, c281, c282, c283, c284, c285, c286, c287, c288, c289, c290, c291, c292, c293, c294, c295, c296, c297, c298, c299, c300, c301, c302, c303, c304, c305, c306, c307, c308, c309, c310, c311, c312, c313, c314, c315, c316, c317, c318, c319, c320, c321, c322, c323, c324, c325, c326, c327, c328, c329, c330, c331, c332, c333, c334, c335, c336, c337, c338, c339, c340, c341, c342, c343, c344, c345, c346, c347, c348, c349, c350, c351, c352, c353, c354, c355, c356, c357, c358, c359, c360, c361, c362, c363, c364, c365, c366, c367, c368, c369, c370, c371, c372, c373, c374, c375, c376, c377, c378, c379, c380, c381, c382, c383, c384, c385, c386, c387, c388, c389, c390, c391, c392, c393, c394, c395, c396, c397, c398, c399, c400, c401, c402, c403, c404, c405, c406, c407, c408, c409, c410, c411, c412, c413, c414, c415, c416, c417, c418, c419, c420, c421, c422, c423, c424, c425, c426, c427, c428, c429, c430, c431, c432, c433, c434, c435, c436, c437, c438, c439, c440, c441, c442, c443, c444, c445, c446, c447, c448, c449, c450, c451, c452, c453, c454, c455, c456, c457, c458, c459, c460, c461, c462, c463, c464, c465, c466, c467, c468, c469, c470, c471, c472, c473, c474, c475, c476, c477, c478, c479], []⟩ wq := by
  conv => arg 2; whnf
  obtain ⟨yy, hy⟩ : ∃ yy, yy = (Tryz.f3.body.bind (restAt 36)).getD .skip := ⟨_, rfl⟩
  rw [← hy] at hK
  conv at hy => rhs; whnf
  subst hy
  have hyv' := Lib.hid hIn.y
  have hyl := hIn.yl
  have hZ1 := hIn.z1
  have hu1 := Lib.hid hIn.u1
  have c8 := Lib.hid (fun (k : Nat) (n : Int) (hk : k ≤ 100) (h0 : 0 ≤ n) (h1 : n ≤ 1000) W (h : Below w.heap.size w W) => r8AtN_any k w.heap.size n (.slice a1 len1 cap1) Z1 W hk h0 h1 hZ1 (hu1.out.below h))
  have hT' := Lib.hid hIn.T
  have hE' := Lib.hid hIn.E
  have hSh' := Lib.hid hIn.Sh
  have hGc := Lib.hid hIn.gc'
  have hHc := Lib.hid hIn.hc'
  have Bw := Lib.hid hIn.b
  have Bq := Lib.hid (Below.refl wq.heap.size wq)
  have hKc : Hid (∀ W, Below wq.heap.size wq W → CtsAt W (.slice ya Y.length yc) Y ∧ True ∧ IntsAt W (.slice (some ⟨gg, go9, none⟩) 3 gc) [gx, gy, gz] ∧ IntsAt W (.slice (some ⟨hg, ho9, none⟩) 3 hc9) [hx, hy, hz]) :=
    Lib.hid (fun W hb => ⟨hIn.ya'.below hb, trivial, hIn.g.below hb, hIn.h.below hb⟩)
  obtain ⟨i0, hi, hz0, hz1, hz2⟩ := info_parts infoI
  clear hIn
  have hO1 := Lib.hid (own3_start wq)
  have hB1 := Lib.hid ((Below.refl wq.heap.size wq).alloc (Nat.le_refl _) (.cells #[] 2))
  go_wp2_with fail
  go_loopw [25, 26, 27] (fun u s i wr => ∃ (k : Nat) (P : List Int), k ≤ Y.length ∧ P.length = k ∧ i = .int .i64 k ∧ s = .int .i64 (sumK (psF P) P.length) ∧ Hid (∀ x ∈ P, 0 ≤ x ∧ x ≤ 5) ∧ Hid (wr.ownsRow wq.heap.size 2 1 u P.length (P.map encI)) ∧ Hid (Below wq.heap.size wq wr)) (fun _ _ i _ => Y.length - (intOf i).toNat)
  case atStart => exact ⟨0, [], by omega, rfl, rfl, rfl, Lib.hid (fun x hx => by cases hx), hO1, hB1⟩
  case round =>
    obtain ⟨k, P, hk, hPl, rfl, rfl, hPb, hPw, hB⟩ := hrel
    have B10 := Lib.hid (below2 Bw.out hB.out)
    by_cases hlt : k < Y.length
    · --<C
      have hbd := at8n_in Z1 (50 + k) (n := 6) (by decide)
      have c5 := Lib.hid (c8.out (50 + k) 6 (by omega) (by decide) (by decide) wr B10.out)
      obtain ⟨x, hx⟩ : ∃ x, x = at8n Z1 (50 + k) 6 := ⟨_, rfl⟩
      rw [← hx] at hbd c5
      clear hx
      rw [show (((50 + k : Nat)) : Int) = 50 + (k : Int) by omega] at c5
      go_wp2_with fail
      refine c5.out.mono ?_
      rintro e _ ⟨rfl, rfl⟩
      go_wp2_with (at_builtin; refine wpList_append_own _ rfl _ _ 26 rfl wq.heap.size 2 i0 (.int .i64 0) 1 8 Tryz.underlying26 hi hz0 hz1 hz2 rfl (by decide) _ _ _ rfl (World.ownsRow.alloc hPw.out _) ⟨wr.heap.size, 0, none⟩ 1 1 [.int .i64 x] rfl rfl ?c1B ?c2B ?c3B ?c4B ?c5B ?_)
      case c1B =>
        intro j u hj
        match j, hj with
        | 0, hj => simp at hj; subst hj; simp [Addr.add]
      case c2B => intro u hu; simp at hu; rcases hu with rfl; rfl
      case c3B => unfold maxLen; omega
      case c4B => omega
      case c5B => have := hB.out.size; simp at this ⊢; omega
      intro v' w3 hown' hgrow' _
      have hO3 : Hid (w3.ownsRow wq.heap.size 2 1 v' (P ++ [x]).length ((P ++ [x]).map encI)) := Lib.hid (by rw [List.length_append, List.map_append, hPl]; exact hown')
      have hB3 : Hid (Below wq.heap.size wq w3) := Lib.hid ((hB.out.alloc hB.out.size _).grown hgrow' (by have := hB.out.size; simp; omega) (fun j hj => World.ownsRow.own_ge hPw.out j hj))
      have hPb3 : Hid (∀ y ∈ P ++ [x], 0 ≤ y ∧ y ≤ 5) := Lib.hid (fun y hy => by
        rcases List.mem_append.1 hy with hy | hy
        · exact hPb.out y hy
        · simp only [List.mem_cons, List.mem_nil_iff, or_false] at hy; subst hy; omega)
      obtain ⟨pg, po, pc, rfl, hlast⟩ := own_last hO3.out (fun n hn => by have := hPb3.out n hn; unfold inI; omega)
      have hps := ps_nonneg hPb.out
      have ew : IntKind.i64.wrap (sumK (psF P) k + x) = sumK (psF P) k + x := IntWalk.i64_in _ (by rw [← hPl]; omega)
      have hsn := Lib.hid (ps_snoc P x)
      rw [hPl] at hlast
      clear hown' hgrow' hPw hB B10 hPb c5 hps
      go_wp2
      go_roundw
      case rel => exact ⟨k + 1, P ++ [x], by omega, by rw [List.length_append]; simp [hPl], by go_num, by rw [hsn.out, hPl], hPb3, hO3, hB3⟩
      case measure => simp [intOf]; omega
    · have hkY : k = Y.length := by omega
      subst hkY
      obtain ⟨pa, pc, rfl⟩ := ownShape hPw.out
      have hPI := Lib.hid (ints_own hPw.out (fun n hn => by have := hPb.out n hn; unfold inI; omega))
      have Bp := Lib.hid (below2 Bq.out hB.out)
      have Bpw := Lib.hid (below2 Bw.out hB.out)
      have cM := vMixA hyv'.out hyl hPl hPb.out wr (hKc.out wr Bp.out).1 hPI.out
      obtain ⟨S, hS⟩ : ∃ S, S = sumK (psF P) P.length := ⟨_, rfl⟩
      rw [← hS] at cM
      rw [← hS]
      replace cM := Lib.hid cM
      replace hS := Lib.hid hS
      have hPl' := Lib.hid hPl
      clear hPw hPI hlt hk hB hB1 hO1 B10 Bq Bw hPl
      go_wp2_with fail
      refine cM.out.mono ?_
      rintro e q1 ⟨v, c, rfl, bM, hor⟩
      have Bm := Lib.hid (below2 Bp.out bM)
      have Bmw := Lib.hid (below2 Bpw.out bM)
      clear cM bM Bp Bpw
      go_upto_region 44 with fail
      go_cut [281] from 268 to 281 (fun s wx => s = .bool false ∧ q1 = wx)
      case first =>
        rcases hor with ⟨h1, rfl, x, y, z, g, o, cap, rfl, -⟩ | ⟨h1, rfl⟩
        · have d1 : decide (0 < S) = true := decide_eq_true h1
          go_wp2_with fail
          go_meet
          exact ⟨rfl, rfl⟩
        · have d1 : decide (0 < S) = false := decide_eq_false (by omega)
          go_wp2_with fail
          go_meet
          exact ⟨rfl, rfl⟩
      case rest =>
        obtain ⟨rfl, rfl⟩ := hcut
        have hor' := Lib.hid hor
        clear hor
        go_wp2_with fail
        go_loopw [30] (fun i wr => ∃ k : Nat, k ≤ 3 ∧ i = .int .i64 k ∧ Hid (Below q1.heap.size q1 wr)) (fun i _ => 3 - (intOf i).toNat)
        case atStart => exact ⟨0, by omega, rfl, Lib.hid (Below.refl _ _)⟩
        case round =>
          obtain ⟨k, hk, rfl, hB⟩ := hrel
          obtain ⟨wo, rfl⟩ : ∃ wo, wo = wr := ⟨_, rfl⟩
          have Bo := Lib.hid (below2 Bm.out hB.out)
          have Bow := Lib.hid (below2 Bmw.out hB.out)
          obtain ⟨qb, hqb⟩ : ∃ qb, qb = (decide (k < 3) && (c == 0)) := ⟨_, rfl⟩
          go_upto_region 47 with fail
          go_cut [287] from 282 to 329 (fun s wx => s = .bool qb ∧ wo = wx)
          case first =>
            have hor := hor'.out
            by_cases h3 : k < 3
            · have d3 : decide ((k : Int) < 3) = true := decide_eq_true (by omega)
              rw [decide_eq_true h3] at hqb
              rcases hor with ⟨-, rfl, -⟩ | ⟨-, rfl⟩
              · replace hqb := Lib.hid (show true = qb by rw [hqb]; rfl)
                go_wp2_with fail
                go_meet
                exact ⟨by rw [← hqb.out], rfl⟩
              · replace hqb := Lib.hid (show false = qb by rw [hqb]; rfl)
                go_wp2_with fail
                go_meet
                exact ⟨by rw [← hqb.out], rfl⟩
            · have d3 : decide ((k : Int) < 3) = false := decide_eq_false (by omega)
              rw [decide_eq_false h3] at hqb
              replace hqb := Lib.hid (show false = qb by rw [hqb]; rfl)
              clear hor
              go_wp2_with fail
              go_meet
              exact ⟨by rw [← hqb.out], rfl⟩
          case rest =>
            obtain ⟨rfl, rfl⟩ := hcut
            cases qb
            · clear hqb hor' hB hS hPl' hPb hk
              go_upto_region 58 with fail
              exact tail58 ⟨hyv'.out, hyl, hZ1, hu1.out, hT'.out, hE'.out, hSh'.out, hGc.out, hHc.out, Bow.out, (hKc.out wo Bo.out).1, (hKc.out wo Bo.out).2.2.1, (hKc.out wo Bo.out).2.2.2⟩ (by assumption)
            · have h3 : k < 3 ∧ c = 0 := by simpa using hqb.symm
              rcases hor'.out with ⟨h1, rfl, x, y, z, g, o, cap, rfl, hme, hx, hy, hz, hMI⟩ | ⟨-, rfl⟩
              rotate_left
              · exact absurd h3.2 (by decide)
              have hmc := mix_cell (hMI.below hB.out) hme h3.1
              have hmg : g < wo.heap.size := (cell3 (hMI.below hB.out) rfl h3.1).2
              have h1' : 0 < sumK (psF P) P.length := by rw [← hS.out]; exact h1
              have hK := (hKc.out wo Bo.out).1
              obtain ⟨ya2, yc2, ey, -, -, hyr⟩ := hK
              injection ey with ey1 _ ey3
              subst ey1 ey3
              rcases hyr with h | ⟨yg, yo, rfl, hyg, hyr⟩
              · have := hPl'.out
                rw [h] at this
                rw [show P.length = 0 from this] at h1'
                exact absurd h1' (show ¬ (0 : Int) < 0 by decide)
              have hyr' := Lib.hid hyr
              have h1H := Lib.hid h1'
              have h3k := h3.1
              obtain ⟨mk, hmk⟩ : ∃ mk, mk = mix1 Y P k := ⟨_, rfl⟩
              rw [← hmk] at hmc
              replace hmk := Lib.hid hmk
              clear hyr h1' h1 hqb hMI hme hx hy hz h3
              go_wp2_with fail
              go_loopw [31, 32, 33] (fun lo hi i wk => ∃ (m : Nat) (L H : Int), m ≤ Y.length ∧ i = .int .i64 m ∧ lo = .int .i64 L ∧ hi = .int .i64 H ∧ Hid (∀ i, i < m → L ≤ (Y.getD i ct0).col.getD k 0 ∧ (Y.getD i ct0).col.getD k 0 ≤ H) ∧ Hid (Below wo.heap.size wo wk)) (fun _ _ i _ => Y.length - (intOf i).toNat)
              case atStart => exact ⟨0, 255, 0, by omega, rfl, rfl, rfl, Lib.hid (fun i hi => by omega), Lib.hid (Below.refl _ _)⟩
              case round =>
                obtain ⟨m, L, H, hm, rfl, rfl, rfl, hLH, hBk⟩ := hrel
                by_cases hlt : m < Y.length
                · obtain ⟨u, hu, hui⟩ := hyr'.out m hlt
                  have hxv := cts_one hyv'.out hlt
                  have hcol := col3_of (ctB_bd hxv).2.2
                  have hcl := (ct_cell (range_below hu hyg hBk.out)).2.2.2
                  obtain ⟨cx, cy, cz, hLe, -⟩ := hcol
                  rw [hLe] at hui
                  obtain ⟨ug, uo, ucc, rfl, hugl, -⟩ := row3 hui
                  have hcc := (cell3 (hui.below hBk.out) rfl h3k).1
                  obtain ⟨c0, hc0⟩ : ∃ c0, c0 = ([cx, cy, cz] : List Int).getD k 0 := ⟨_, rfl⟩
                  have hc1 : Hid ((Y.getD m ct0).col.getD k 0 = c0) := Lib.hid (by rw [cts_getD hlt, hLe, hc0])
                  rw [← hc0] at hcc
                  have hg1 : yg < wr.heap.size := Nat.lt_of_lt_of_le hyg hBk.out.size
                  have hg2 : ug < wr.heap.size := Nat.lt_of_lt_of_le hugl hBk.out.size
                  clear hu hui hLe hc0 hxv hugl
                  have hLH' : Hid (∀ i, i < m + 1 → min L c0 ≤ (Y.getD i ct0).col.getD k 0 ∧ (Y.getD i ct0).col.getD k 0 ≤ max H c0) := Lib.hid (fun i hi => by
                    by_cases he : i < m
                    · have := hLH.out i he; omega
                    · have : i = m := by omega
                      subst this
                      rw [hc1.out]; omega)
                  clear hc1 hLH
                  go_wp2
                  all_goals go_roundw
                  all_goals first | (case rel => exact ⟨m + 1, min L c0, max H c0, by omega, by go_num, rfl, rfl, hLH', hBk⟩) | (case measure => simp [intOf]; omega) | skip
                · have hmY : m = Y.length := by omega
                  have hbt := mix_between (Z := Y) (k := k) (lo := L) (hi := H) hPb.out h1H.out (fun i hi => hLH.out i (by rw [hmY, ← hPl'.out]; exact hi))
                  rw [← hmk.out] at hbt
                  have d1 : decide (mk < L) = false := decide_eq_false (by omega)
                  have d2 : decide (H < mk) = false := decide_eq_false (by omega)
                  have hmc' := (hBk.out.cell (p := ⟨g, o + k, none⟩) hmg).trans hmc
                  clear hbt hmc hLH
                  go_wp2
                  go_roundw
                  case rel => exact ⟨k + 1, by omega, by go_num, Lib.hid (below2 hB.out hBk.out)⟩
                  case measure => simp [intOf]; omega
end Go.Proofs.YtgfhjcbmilaegaaGreatDoor
