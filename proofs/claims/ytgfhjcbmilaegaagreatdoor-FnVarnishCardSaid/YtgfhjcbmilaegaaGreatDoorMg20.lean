/-
  Texts that stand together: Vru.
-/
import Derived.Deep.DeepCutAuto
import Derived.Deep.CutRange
import Derived.Test.YtgfhjcbmilaegaaGreatDoorMg19
namespace Go.Proofs.YtgfhjcbmilaegaaGreatDoor
open Go.ChangeShapes Go.WideShapes Go.ChangeAt Go.RowKit Go.Deep
set_option linter.unusedVariables false
set_option maxRecDepth 1000000
set_option linter.unusedSimpArgs false
/-- what follows from a region on, out of a function's code -/
def headIs (n : Nat) : Code → Bool
  | .region k _ _ => k == n
  | .seq a _ => headIs n a
  | _ => false
def headAt (n : Nat) : Code → Option Code
  | .seq a b => if headIs n a then some a else headAt n b
  | .scope c => headAt n c
  | .block _ c => headAt n c
  | _ => none
def restAt (n : Nat) : Code → Option Code
  | .seq a b => if headIs n a then some b else restAt n b
  | .scope c => restAt n c
  | .block _ c => restAt n c
  | _ => none
/-- what the second and the third part of the law know at their beginning -/
structure VrIn (w wo : World) (Z1 : List Int) (Y : List Ct) (a1 : Option Addr) (len1 cap1 : Nat) (ya : Option Addr) (yc : Nat) (gg go9 gc hg ho9 hc9 : Nat) (gx gy gz hx hy hz : Int) : Prop where
  y : ctsB Y = true
  yl : Y.length ≤ 4
  z1 : Z1.length ≤ 1048576
  u1 : U8Old w.heap.size w (.slice a1 len1 cap1) Z1
  T : TabP w
  E : ErrsAt w
  Sh : w.ShapedOpen Tryz.prog
  gc' : col3 [gx, gy, gz]
  hc' : col3 [hx, hy, hz]
  b : Below w.heap.size w wo
  ya' : CtsAt wo (.slice ya Y.length yc) Y
  g : IntsAt wo (.slice (some ⟨gg, go9, none⟩) 3 gc) [gx, gy, gz]
  h : IntsAt wo (.slice (some ⟨hg, ho9, none⟩) 3 hc9) [hx, hy, hz]
set_option maxHeartbeats 12800000 in
theorem tail58 {w wo : World} {Z1 : List Int} {Y : List Ct} {a1 : Option Addr} {len1 cap1 : Nat} {ya : Option Addr} {yc gg go9 gc hg ho9 hc9 : Nat} {gx gy gz hx hy hz : Int} {c0 c2 c3 c4 c8 c9 c10 c11 c12 c13 c14 c15 c16 c17 c18 c19 c20 c21 c22 c23 c24 c25 c26 c27 c28 c29 c30 c31 c32 c33 c34 c35 c36 c37 c38 c39 c40 c41 c42 c43 c44 c45 c46 c47 c48 c49 c50 c51 c52 c53 c54 c55 c56 c57 c58 c59 c60 c61 c62 c63 c64 c65 c66 c67 c68 c69 c70 c71 c72 c73 c74 c75 c76 c77 c78 c79 c80 c81 c82 c83 c84 c85 c86 c87 c88 c89 c90 c91 c92 c93 c94 c95 c96 c97 c98 c99 c100 c101 c102 c103 c104 c105 c106 c107 c108 c109 c110 c111 c112 c113 c114 c115 c116 c117 c118 c119 c120 c121 c122 c123 c124 c125 c126 c127 c128 c129 c130 c131 c132 c133 c134 c135 c136 c137 c138 c139 c140 c141 c142 c143 c144 c145 c146 c147 c148 c149 c150 c151 c152 c153 c154 c155 c156 c157 c158 c159 c160 c161 c162 c163 c164 c165 c166 c167 c168 c169 c170 c171 c172 c173 c174 c175 c176 c177 c178 c179 c180 c181 c182 c183 c184 c185 c186 c187 c188 c189 c190 c191 c192 c193 c194 c195 c196 c197 c198 c199 c200 c201 c202 c203 c204 c205 c206 c207 c208 c209 c210 c211 c212 c213 c214 c215 c216 c217 c218 c219 c220 c221 c222 c223 c224 c225 c226 c227 c228 c229 c230 c231 c232 c233 c234 c235 c236 c237 c238 c239 c240 c241 c242 c243 c244 c245 c246 c247 c248 c249 c250 c251 c252 c253 c254 c255 c256 c257 c258 c259 c260 c261 c262 c263 c264 c265 c266 c267 c268 c269 c270 c271 c272 c273 c274 c275 c276 c277 c278 c279 c280 c281 c282 c283 c284 c285 c286 c287 c288 c289 c290 c291 c292 c293 c294 c295 c296 c297 c298 c299 c300 c301 c302 c303 c304 c305 c306 c307 c308 c309 c310 c311 c312 c313 c314 c315 c316 c317 c318 c319 c320 c321 c322 c323 c324 c325 c326 c327 c328 c329 c330 c331 c332 c333 c334 c335 c336 c337 c338 c339 c340 c341 c342 c343 c344 c345 c346 c347 c348 c349 c350 c351 c352 c353 c354 c355 c356 c357 c358 c359 c360 c361 c362 c363 c364 c365 c366 c367 c368 c369 c370 c371 c372 c373 c374 c375 c376 c377 c378 c379 c380 c381 c382 c383 c384 c385 c386 c387 c388 c389 c390 c391 c392 c393 c394 c395 c396 c397 c398 c399 c400 c401 c402 c403 c404 c405 c406 c407 c408 c409 c410 c411 c412 c413 c414 c415 c416 c417 c418 c419 c420 c421 c422 c423 c424 c425 c426 c427 c428 c429 c430 c431 c432 c433 c434 c435 c436 c437 c438 c439 c440 c441 c442 c443 c444 c445 c446 c447 c448 c449 c450 c451 c452 c453 c454 c455 c456 c457 c458 c459 c460 c461 c462 c463 c464 c465 c466 c467 c468 c469 c470 c471 c472 c473 c474 c475 c476 c477 c478 c479 : Value}
    (hIn : VrIn w wo Z1 Y a1 len1 cap1 ya yc gg go9 gc hg ho9 hc9 gx gy gz hx hy hz)
    {K : Act → World → Prop} (hK : ∀ a w', Code.wp Tryz.prog ((Tryz.f3.body.bind (restAt 58)).getD .skip) (bodyPost Tryz.prog Tryz.f3 fun e w' => e = .returned (.bool true) ∧ Below w.heap.size w w') a w' → K a w') :
    Code.wp Tryz.prog ((Tryz.f3.body.bind (headAt 58)).getD .skip) (Exit.then K (bodyPost Tryz.prog Tryz.f3 fun e w' => e = .returned (.bool true) ∧ Below w.heap.size w w')) ⟨#[c0, .slice a1 len1 cap1, c2, c3, c4, .slice ya Y.length yc, .slice (some ⟨gg, go9, none⟩) 3 gc, .slice (some ⟨hg, ho9, none⟩) 3 hc9, c8, c9, c10, c11, c12, c13, c14, c15, c16, c17, c18, c19, c20, c21, c22, c23, c24, c25, c26, c27, c28, c29, c30, c31, c32, c33, c34, c35, c36, c37, c38, c39, c40, c41, c42, c43, c44, c45, c46, c47, c48, c49, c50, c51, c52, c53, c54, c55, c56, c57, c58, c59, c60, c61, c62, c63, c64, c65, c66, c67, c68, c69, c70, c71, c72, c73, c74, c75, c76, c77, c78, c79, c80, c81, c82, c83, c84, c85, c86, c87, c88, c89, c90, c91, c92, c93, c94, c95, c96, c97, c98, c99, c100, c101, c102, c103, c104, c105, c106, c107, c108, c109, c110, c111, c112, c113, c114, c115, c116, c117, c118, c119, c120, c121, c122, c123, c124, c125, c126, c127, c128, c129, c130, c131, c132, c133, c134, c135, c136, c137, c138, c139, c140, c141, c142, c143, c144, c145, c146, c147, c148, c149, c150, c151, c152, c153, c154, c155, c156, c157, c158, c159, c160, c161, c162, c163, c164, c165, c166, c167, c168, c169, c170, c171, c172, c173, c174, c175, c176, c177, c178, c179, c180, c181, c182, c183, c184, c185, c186, c187, c188, c189, c190, c191, c192, c193, c194, c195, c196, c197, c198, c199, c200, c201, c202, c203, c204, c205, c206, c207, c208, c209, c210, c211, c212, c213, c214, c215, c216, c217, c218, c219, c220, c221, c222, c223, c224, c225, c226, c227, c228, c229, c230, c231, c232, c233, c234, c235, c236, c237, c238, c239, c240, c241, c242, c243, c244, c245, c246, c247, c248, c249, c250, c251, c252, c253, c254, c255, c256, c257, c258, c259, c260, c261, c262, c263, c264, c265, c266, c267, c268, c269, c270, c271, c272, c273, c274, c275, c276, c277, c278, c279, c280, c281, c282, c283, c284, c285, c286, c287, c288, c289, c290, c291, c292, c293, c294, c295, c296, c297, c298, c299, c300, c301, c302, c303, c304, c305, c306, c307, c308, c309, c310, c311, c312, c313, c314, c315, c316, c317, c318, c319, c320, c321, c322, c323, c324, c325, c326, c327, c328, c329, c330, c331, c332, c333, c334, c335, c336, c337, c338, c339, c340, c341, c342, c343, c344, c345, c346, c347, c348, c349, c350, c351, c352, c353, c354, c355, c356, c357, c358, c359, c360, c361, c362, c363, c364, c365, c366, c367, c368, c369, c370, c371, c372, c373, c374, c375, c376, c377, c378, c379, c380, c381, c382, c383, c384, c385, c386, c387, c388, c389, c390, c391, c392, c393, c394, c395, c396, c397, c398, c399, c400, c401, c402, c403, c404, c405, c406, c407, c408, c409, c410, c411, c412, c413, c414, c415, c416, c417, c418, c419, c420, c421, c422, c423, c424, c425, c426, c427, c428, c429, c430, c431, c432, c433, c434, c435, c436, c437, c438, c439, c440, c441, c442, c443, c444, c445, c446, c447, c448, c449, c450, c451, c452, c453, c454, c455, c456, c457, c458, c459, c460, c461, c462, c463, c464, c465, c466, c467, c468, c469, c470, c471, c472, c473, c474, c475, c476, c477, c478, c479], []⟩ wo := by
  conv => arg 2; whnf
  obtain ⟨yy, hy⟩ : ∃ yy, yy = (Tryz.f3.body.bind (restAt 58)).getD .skip := ⟨_, rfl⟩
  rw [← hy] at hK
  conv at hy => rhs; whnf
  subst hy
  have hyv' := Lib.hid hIn.y
  have hyl := hIn.yl
  have hZ1 := hIn.z1
  have hu1 := Lib.hid hIn.u1
  have c8 := Lib.hid (fun (k : Nat) (n : Int) (hk : k ≤ 100) (h0 : 0 ≤ n) (h1 : n ≤ 1000) W (h : Below w.heap.size w W) => r8AtN_any k w.heap.size n (.slice a1 len1 cap1) Z1 W hk h0 h1 hZ1 (hu1.out.below h))
  have hT' := Lib.hid hIn.T
  have hE' := Lib.hid hIn.E
  have hSh' := Lib.hid hIn.Sh
  have hGc := Lib.hid hIn.gc'
  have hHc := Lib.hid hIn.hc'
  have Bw := Lib.hid hIn.b
  have Bq := Lib.hid (Below.refl wo.heap.size wo)
  have hKc : Hid (∀ W, Below wo.heap.size wo W → CtsAt W (.slice ya Y.length yc) Y ∧ True ∧ IntsAt W (.slice (some ⟨gg, go9, none⟩) 3 gc) [gx, gy, gz] ∧ IntsAt W (.slice (some ⟨hg, ho9, none⟩) 3 hc9) [hx, hy, hz]) :=
    Lib.hid (fun W hb => ⟨hIn.ya'.below hb, trivial, hIn.g.below hb, hIn.h.below hb⟩)
  obtain ⟨i0, hi, hz0, hz1, hz2⟩ := info_parts infoI
  clear hIn
  have Bo := Bq
  have Bow := Bw
  obtain ⟨ms, cs, hs0, hs1, cSt⟩ := vStr hyv'.out hyl
  have cSt' := Lib.hid (cSt wo (hKc.out wo Bo.out).1)
  clear cSt
  go_wp2_with fail
  refine cSt'.out.mono ?_
  rintro e q2 ⟨rfl, bS⟩
  have B2 := Lib.hid (below2 Bo.out bS)
  have B2w := Lib.hid (below2 Bow.out bS)
  clear bS cSt' Bo Bow
  go_upto_region 59 with fail
  go_cut [354] from 335 to 354 (fun s wx => s = .bool false ∧ q2 = wx)
  case first =>
    by_cases hY : 0 < Y.length
    · obtain ⟨rfl, km, rfl, hkm, -⟩ := hs1 hY
      have d1 : decide ((0 : Int) < (Y.length : Int)) = true := decide_eq_true (by omega)
      have d2 : decide ((km : Int) < 0) = false := decide_eq_false (by omega)
      have d3 : decide ((Y.length : Int) ≤ (km : Int)) = false := decide_eq_false (by omega)
      have d4 : decide (Y.length ≤ km) = false := decide_eq_false (by omega)
      go_wp2_with fail
      go_meet
      exact ⟨rfl, rfl⟩
    · have hc3 := hs0 (by omega)
      subst hc3
      have d1 : decide ((0 : Int) < (Y.length : Int)) = false := decide_eq_false (by omega)
      go_wp2_with fail
      go_meet
      exact ⟨rfl, rfl⟩
  case rest =>
    obtain ⟨rfl, rfl⟩ := hcut
    have hwb := at8n_in Z1 60 (n := 40) (by decide)
    have c60 := Lib.hid (c8.out 60 40 (by decide) (by decide) (by decide) q2 B2w.out)
    obtain ⟨wt, hwt⟩ : ∃ wt, wt = at8n Z1 60 40 := ⟨_, rfl⟩
    rw [← hwt] at hwb c60
    clear hwt
    have ew : IntKind.i64.wrap (10 * wt) = 10 * wt := IntWalk.i64_in _ (by omega)
    have hs1' := Lib.hid hs1
    clear hs0 hs1
    go_wp2_with fail
    refine c60.out.mono ?_
    rintro e _ ⟨rfl, rfl⟩
    clear c60
    go_wp2_with fail
    go_loopw [37] (fun i wr => ∃ k : Nat, k ≤ Y.length ∧ i = .int .i64 k ∧ Hid (Below q2.heap.size q2 wr)) (fun i _ => Y.length - (intOf i).toNat)
    case atStart => exact ⟨0, by omega, rfl, Lib.hid (Below.refl _ _)⟩
    case round =>
      obtain ⟨k, hk, rfl, hB⟩ := hrel
      by_cases hlt : k < Y.length
      · obtain ⟨w7, rfl⟩ : ∃ w7, w7 = wr := ⟨_, rfl⟩
        have B7 := Lib.hid (below2 B2.out hB.out)
        have B7w := Lib.hid (below2 B2w.out hB.out)
        obtain ⟨rfl, km, rfl, hkm, hkge⟩ := hs1'.out (by omega)
        have hK := (hKc.out w7 B7.out).1
        obtain ⟨ya2, yc2, ey, -, -, hyr⟩ := hK
        injection ey with ey1 _ ey3
        subst ey1 ey3
        rcases hyr with h | ⟨yg, yo, rfl, hyg, hyr⟩
        · rw [h] at hlt; exact absurd hlt (by simp)
        obtain ⟨u, hu, hui⟩ := hyr k hlt
        obtain ⟨um, hum, -⟩ := hyr km hkm
        have hcm := (ct_cell hum).2.2.1
        have hxv0 := cts_one hyv'.out hlt
        have hge := hkge k hlt
        rw [cts_getD hlt, cts_getD hkm] at hge
        have hst := Lib.hid (fun (j : Nat) (x y z : Int) (e : itK Y[k].col Y[k].cover [gx, gy, gz] j = [x, y, z]) => (show aftK Y [(k : Int)] [x, y, z] 1 = itK Y[k].col Y[k].cover [gx, gy, gz] (j + 1) by rw [← e]; exact it_step hlt j))
        obtain ⟨cvm, hcvm⟩ : ∃ cvm, cvm = Y[km].cover := ⟨_, rfl⟩
        rw [← hcvm] at hge hcm
        obtain ⟨xx, hxx⟩ : ∃ xx, xx = Y[k]'hlt := ⟨_, rfl⟩
        rw [← hxx] at hu hui hxv0 hge hst
        obtain ⟨s, a, b, L⟩ := xx
        replace hui : IntsAt w7 u L := hui
        replace hu : w7.rangeAt yg (yo + k * 4) [.string s, .int .i64 a, .int .i64 b, u] := hu
        obtain ⟨uua, uuc, rfl⟩ := intsShape hui
        have hxv := Lib.hid hxv0
        have hpc := ct_pieces hxv0
        have hbd := ctB_bd hxv0
        have hcolL := Lib.hid (col3_of hbd.2.2)
        have hs10 : s.size ≤ maxLen := by have := hpc.1; unfold maxLen; omega
        have hL3 : L.length = 3 := hpc.2.2.2.2.2.1
        have hLm : L.length ≤ maxLen := by rw [hL3]; unfold maxLen; omega
        obtain ⟨D, cT, cR⟩ := vText (u := .slice uua L.length uuc) hxv0 hs10 hLm
        obtain ⟨fw, fc, F, hF11, hFlt, hFeq, hFle, cF⟩ := vFew (u := .slice uua L.length uuc) (vg := .slice (some ⟨gg, go9, none⟩) 3 gc) (vh := .slice (some ⟨hg, ho9, none⟩) 3 hc9) hxv0 hs10 hLm hGc.out hHc.out (z := 10 * wt) (by omega)
        have hcov : 0 ≤ b ∧ b ≤ 1000 := hbd.2.1
        have hd0 : decide (cvm < b) = false := decide_eq_false (by have : b ≤ cvm := hge; omega)
        have cT' := Lib.hid (cT w7 hui (hT'.out.below B7w.out))
        have cR' := Lib.hid cR
        have cF' := Lib.hid cF
        have hFle' := Lib.hid hFle
        have hFlt' := Lib.hid hFlt
        have hFeq' := Lib.hid hFeq
        have hui' := Lib.hid hui
        have hcmH := Lib.hid hcm
        have hr' := hu
        have hrH := Lib.hid hr'
        have hd0' := Lib.hid hd0
        have hcov' := Lib.hid hcov
        have hF11' := Lib.hid hF11
        clear hyr hum hxv0 hge hcvm hxx hpc hbd cT cR cF hFle hFlt hFeq hui hu hcm hLm hkge hs10 hL3 hcov hd0 hF11 ew
        go_wp2_with (refine wpList_load_mid rfl _ _ rfl yg (yo + k * 4) rfl _ _ hr' Tryz.underlying36 rfl rfl ?_)
        refine cT'.out.mono ?_
        rintro e r1 ⟨rfl, b1⟩
        have B1 := Lib.hid (below2 B7w.out b1)
        have b1' := Lib.hid b1
        clear b1 hr'
        go_wp2_with fail
        refine (cR'.out r1 (hT'.out.below B1.out) (hE'.out.below B1.out) (shape_below hSh'.out B1.out)).mono ?_
        rintro e r2 ⟨va, vc, rfl, b2⟩
        have B72 := Lib.hid (below2 b1'.out b2)
        have hbx := ctU_box s a b (.slice va L.length vc) r2
        have hbb : Below r2.heap.size r2 (r2.alloc (.cells #[.string s, .int .i64 a, .int .i64 b, .slice va L.length vc] 36)) := (Below.refl _ _).alloc (Nat.le_refl _) _
        have hzx : r2.heap.size < (r2.alloc (.cells #[.string s, .int .i64 a, .int .i64 b, .slice va L.length vc] 36)).heap.size := by simp
        have hr2 := range_below (range_below hrH.out hyg B72.out) (Nat.lt_of_lt_of_le hyg B72.out.size) hbb
        clear b2 cT' cR' b1' B1
        go_wp2_with (refine wpList_load_mid rfl _ _ rfl yg (yo + k * 4) rfl _ _ hr2 Tryz.underlying36 rfl rfl ?_)
        generalize r2.alloc (.cells #[.string s, .int .i64 a, .int .i64 b, .slice va L.length vc] 36) = r3 at hbx hbb hzx hr2 ⊢
        have B73 := Lib.hid (below2 B72.out hbb)
        have Bc3 := Lib.hid (below2 B7.out B73.out)
        have hbxH := Lib.hid hbx
        refine (cF'.out r3 (hui'.out.below B73.out) (hKc.out r3 Bc3.out).2.2.1 (hKc.out r3 Bc3.out).2.2.2).mono ?_
        rintro e r4 ⟨rfl, b4⟩
        have B74 := Lib.hid (below2 B73.out b4)
        obtain ⟨hb0, -, -, -⟩ := hbxH.out.below hzx b4
        simp only [Nat.zero_add] at hb0
        obtain ⟨hk0, -, hk2, -⟩ := ct_cell (x := ⟨s, a, b, L⟩) (range_below hrH.out hyg B74.out)
        have hm2 := (B74.out.cell (p := ⟨yg, yo + km * 4 + 2, none⟩) hyg).trans hcmH.out
        have hg4 : yg < r4.heap.size := Nat.lt_of_lt_of_le hyg B74.out.size
        clear b4 hbx hbb hr2 B72 B73 Bc3 hbxH cF' hrH hcmH hui'
        have hd0 := hd0'.out
        have hF11 := hF11'.out
        by_cases hF : F < 11
        · obtain ⟨rfl, rfl, hFg⟩ := hFlt'.out hF
          have dF0 : decide ((F : Int) < 0) = false := decide_eq_false (by omega)
          have dF1 : decide ((10 : Int) < (F : Int)) = false := decide_eq_false (by omega)
          replace hFg := Lib.hid hFg
          clear hFlt' hFeq'
          replace hk0 : r4.cell? ⟨yg, yo + k * 4, none⟩ = some (.string s) := hk0
          replace hk2 : r4.cell? ⟨yg, yo + k * 4 + 2, none⟩ = some (.int .i64 b) := hk2
          go_upto_region 67 with fail
          go_quiet (fail)
          have B4q : Below w7.heap.size w7 (r4.drewN nq) := belowN B74.out nq
          generalize r4.drewN nq = r5 at B4q ⊢
          have Bc5 := Lib.hid (below2 B7.out B4q)
          have B4h := Lib.hid B4q
          clear B4q B74 hb0 hk0 hk2 hm2 hd0 hg4 dF0 dF1
          have hSK := Lib.hid (app3 (hKc.out r5 Bc5.out).2.2.1 (.cells #[] 2))
          go_wp2_with (at_builtin; refine wpList_append_own _ rfl _ _ 26 rfl r5.heap.size 2 i0 (.int .i64 0) 1 8 Tryz.underlying26 hi hz0 hz1 hz2 rfl (by decide) _ 0 [] rfl (own3_start r5) ⟨gg, go9, none⟩ 3 gc [.int .i64 gx, .int .i64 gy, .int .i64 gz] rfl rfl ?c1K ?c2K ?c3K ?c4K ?c5K ?_)
          case c1K => exact hSK.out
          case c2K => intro u hu; simp at hu; rcases hu with rfl | rfl | rfl <;> rfl
          case c3K => unfold maxLen; omega
          case c4K => omega
          case c5K => simp
          intro vk' r6 hownK hgrowK _
          obtain ⟨vkg, vko, vkc, rfl, hIK, hbK⟩ := app3_end (x := gx) (y := gy) (z := gz) (hKc.out r5 Bc5.out).2.2.1 hownK hgrowK
          replace hIK := Lib.hid hIK
          replace hbK := Lib.hid hbK
          clear hownK hgrowK hSK
          have B76 := Lib.hid (below2 B4h.out hbK.out)
          have hit0 : Hid (itK L b [gx, gy, gz] 0 = [gx, gy, gz]) := Lib.hid rfl
          clear B4h Bc5 hbK
          go_wp2_with fail
          go_loopw [42, 43] (fun l n wk => ∃ (j : Nat) (x y z : Int) (ng no nc : Nat), j ≤ 11 ∧ n = .int .i64 j ∧ l = .slice (some ⟨ng, no, none⟩) 3 nc ∧ Hid (itK L b [gx, gy, gz] j = [x, y, z]) ∧ Hid (IntsAt wk (.slice (some ⟨ng, no, none⟩) 3 nc) [x, y, z]) ∧ Hid (Below r6.heap.size r6 wk)) (fun _ n _ => 11 - (intOf n).toNat)
          case atStart => exact ⟨0, gx, gy, gz, _, _, _, by omega, rfl, rfl, hit0, hIK, Lib.hid (Below.refl _ _)⟩
          case round =>
            obtain ⟨j, x, y, z, ng, no, nc, hj, rfl, rfl, hNe, hNI, hBr⟩ := hrel
            have Br7 := Lib.hid (below2 B76.out hBr.out)
            have Bcr := Lib.hid (below2 B7.out Br7.out)
            by_cases hj11 : j < 11
            · have hNc : Hid (col3 [x, y, z]) := Lib.hid (by rw [← hNe.out]; exact it_col hcolL.out hcov'.out hGc.out j)
              have cG := vGapS hNc.out hHc.out wr hNI.out (hKc.out wr Bcr.out).2.2.2
              obtain ⟨gn, hgn⟩ : ∃ gn, gn = gapL [x, y, z] [hx, hy, hz] := ⟨_, rfl⟩
              rw [← hgn] at cG
              replace cG := Lib.hid cG
              have hgF := Lib.hid (show gapL (itK L b [gx, gy, gz] j) [hx, hy, hz] = gn by rw [hNe.out, hgn])
              clear hgn
              go_wp2_with fail
              refine cG.out.mono ?_
              rintro e s1 ⟨rfl, bs⟩
              have Bs7 := Lib.hid (below2 Br7.out bs)
              have Bs6 := Lib.hid (below2 hBr.out bs)
              have hNs := Lib.hid (hNI.out.below bs)
              have hbb : Below s1.heap.size s1 (s1.alloc (.cells #[.int .i64 (k : Int)] 2)) := (Below.refl _ _).alloc (Nat.le_refl _) _
              have hBb := Lib.hid hbb
              have hrow : Hid (IntsAt (s1.alloc (.cells #[.int .i64 (k : Int)] 2)) (.slice (some ⟨s1.heap.size, 0, none⟩) 1 1) [(k : Int)]) := Lib.hid (one_row s1 _ (k : Int) (by unfold inI; omega))
              have cAf := Lib.hid (vAftS hyv'.out hyl (one_ord (x := (k : Int)) ⟨by omega, by omega⟩) hNc.out (s1.alloc (.cells #[.int .i64 (k : Int)] 2)) ((hKc.out _ (below2 (below2 B7.out Bs7.out) hbb)).1) hrow.out (hNs.out.below hbb))
              clear cG bs hbb hrow hNI hNc Bcr Br7 hBr
              by_cases hle : gn ≤ 10 * wt
              · have hFj := hFle'.out j hj11 (by rw [hgF.out]; exact hle)
                have d1 : decide (gn ≤ 10 * wt) = true := decide_eq_true hle
                have d2 : decide ((j : Int) < (F : Int)) = false := decide_eq_false (by omega)
                have d2n : decide (j < F) = false := decide_eq_false (by omega)
                have d3 : decide (10 * wt < gn) = false := decide_eq_false (by omega)
                clear hle hFj
                go_wp2_with fail
                refine cAf.out.mono ?_
                rintro e s2 ⟨nx, ny, nz, mg, mo, mc, hRe, -, -, -, rfl, hRI, bR⟩
                have hnext := Lib.hid (show itK L b [gx, gy, gz] (j + 1) = [nx, ny, nz] by rw [← hst.out j x y z hNe.out]; exact hRe)
                have hRH := Lib.hid hRI
                have Bz := Lib.hid (below2 (below2 Bs6.out hBb.out) bR)
                clear hRe hRI bR cAf
                go_wp2
                go_roundw
                case rel => exact ⟨j + 1, nx, ny, nz, mg, mo, mc, by omega, by go_num, rfl, hnext, hRH, Bz⟩
                case measure => simp [intOf]; omega
              · have hne : F ≠ j := fun h => hle (by rw [← hgF.out, ← h]; exact hFg.out)
                have d1 : decide (gn ≤ 10 * wt) = false := decide_eq_false hle
                have d3 : decide (10 * wt < gn) = true := decide_eq_true (by omega)
                have d4 : ((F : Int) == (j : Int)) = false := by simp; omega
                have d5 : (F == j) = false := by simp [hne]
                have hneI : ¬ (F : Int) = (j : Int) := by omega
                clear hle
                go_wp2_with fail
                refine cAf.out.mono ?_
                rintro e s2 ⟨nx, ny, nz, mg, mo, mc, hRe, -, -, -, rfl, hRI, bR⟩
                have hnext := Lib.hid (show itK L b [gx, gy, gz] (j + 1) = [nx, ny, nz] by rw [← hst.out j x y z hNe.out]; exact hRe)
                have hRH := Lib.hid hRI
                have Bz := Lib.hid (below2 (below2 Bs6.out hBb.out) bR)
                clear hRe hRI bR cAf
                go_wp2
                go_roundw
                case rel => exact ⟨j + 1, nx, ny, nz, mg, mo, mc, by omega, by go_num, rfl, hnext, hRH, Bz⟩
                case measure => simp [intOf]; omega
            · go_wp2
              go_roundw
              case rel => exact ⟨k + 1, by omega, by go_num, Lib.hid (below2 hB.out Br7.out)⟩
              case measure => simp [intOf]; omega
        · obtain ⟨rfl, rfl⟩ := hFeq'.out (by omega)
          clear hFlt' hFeq'
          replace hk0 : r4.cell? ⟨yg, yo + k * 4, none⟩ = some (.string s) := hk0
          replace hk2 : r4.cell? ⟨yg, yo + k * 4 + 2, none⟩ = some (.int .i64 b) := hk2
          go_upto_region 67 with fail
          go_quiet (fail)
          have B4q : Below w7.heap.size w7 (r4.drewN nq) := belowN B74.out nq
          generalize r4.drewN nq = r5 at B4q ⊢
          have Bc5 := Lib.hid (below2 B7.out B4q)
          have B4h := Lib.hid B4q
          clear B4q B74 hb0 hk0 hk2 hm2 hd0 hg4 
          have hSK := Lib.hid (app3 (hKc.out r5 Bc5.out).2.2.1 (.cells #[] 2))
          go_wp2_with (at_builtin; refine wpList_append_own _ rfl _ _ 26 rfl r5.heap.size 2 i0 (.int .i64 0) 1 8 Tryz.underlying26 hi hz0 hz1 hz2 rfl (by decide) _ 0 [] rfl (own3_start r5) ⟨gg, go9, none⟩ 3 gc [.int .i64 gx, .int .i64 gy, .int .i64 gz] rfl rfl ?c1K ?c2K ?c3K ?c4K ?c5K ?_)
          case c1K => exact hSK.out
          case c2K => intro u hu; simp at hu; rcases hu with rfl | rfl | rfl <;> rfl
          case c3K => unfold maxLen; omega
          case c4K => omega
          case c5K => simp
          intro vk' r6 hownK hgrowK _
          obtain ⟨vkg, vko, vkc, rfl, hIK, hbK⟩ := app3_end (x := gx) (y := gy) (z := gz) (hKc.out r5 Bc5.out).2.2.1 hownK hgrowK
          replace hIK := Lib.hid hIK
          replace hbK := Lib.hid hbK
          clear hownK hgrowK hSK
          have B76 := Lib.hid (below2 B4h.out hbK.out)
          have hit0 : Hid (itK L b [gx, gy, gz] 0 = [gx, gy, gz]) := Lib.hid rfl
          clear B4h Bc5 hbK
          go_wp2_with fail
          go_loopw [42, 43] (fun l n wk => ∃ (j : Nat) (x y z : Int) (ng no nc : Nat), j ≤ 11 ∧ n = .int .i64 j ∧ l = .slice (some ⟨ng, no, none⟩) 3 nc ∧ Hid (itK L b [gx, gy, gz] j = [x, y, z]) ∧ Hid (IntsAt wk (.slice (some ⟨ng, no, none⟩) 3 nc) [x, y, z]) ∧ Hid (Below r6.heap.size r6 wk)) (fun _ n _ => 11 - (intOf n).toNat)
          case atStart => exact ⟨0, gx, gy, gz, _, _, _, by omega, rfl, rfl, hit0, hIK, Lib.hid (Below.refl _ _)⟩
          case round =>
            obtain ⟨j, x, y, z, ng, no, nc, hj, rfl, rfl, hNe, hNI, hBr⟩ := hrel
            have Br7 := Lib.hid (below2 B76.out hBr.out)
            have Bcr := Lib.hid (below2 B7.out Br7.out)
            by_cases hj11 : j < 11
            · have hNc : Hid (col3 [x, y, z]) := Lib.hid (by rw [← hNe.out]; exact it_col hcolL.out hcov'.out hGc.out j)
              have cG := vGapS hNc.out hHc.out wr hNI.out (hKc.out wr Bcr.out).2.2.2
              obtain ⟨gn, hgn⟩ : ∃ gn, gn = gapL [x, y, z] [hx, hy, hz] := ⟨_, rfl⟩
              rw [← hgn] at cG
              replace cG := Lib.hid cG
              have hgF := Lib.hid (show gapL (itK L b [gx, gy, gz] j) [hx, hy, hz] = gn by rw [hNe.out, hgn])
              clear hgn
              go_wp2_with fail
              refine cG.out.mono ?_
              rintro e s1 ⟨rfl, bs⟩
              have Bs7 := Lib.hid (below2 Br7.out bs)
              have Bs6 := Lib.hid (below2 hBr.out bs)
              have hNs := Lib.hid (hNI.out.below bs)
              have hbb : Below s1.heap.size s1 (s1.alloc (.cells #[.int .i64 (k : Int)] 2)) := (Below.refl _ _).alloc (Nat.le_refl _) _
              have hBb := Lib.hid hbb
              have hrow : Hid (IntsAt (s1.alloc (.cells #[.int .i64 (k : Int)] 2)) (.slice (some ⟨s1.heap.size, 0, none⟩) 1 1) [(k : Int)]) := Lib.hid (one_row s1 _ (k : Int) (by unfold inI; omega))
              have cAf := Lib.hid (vAftS hyv'.out hyl (one_ord (x := (k : Int)) ⟨by omega, by omega⟩) hNc.out (s1.alloc (.cells #[.int .i64 (k : Int)] 2)) ((hKc.out _ (below2 (below2 B7.out Bs7.out) hbb)).1) hrow.out (hNs.out.below hbb))
              clear cG bs hbb hrow hNI hNc Bcr Br7 hBr
              have hle : ¬ gn ≤ 10 * wt := fun h => by have := hFle'.out j hj11 (by rw [hgF.out]; exact h); omega
              have d1 : decide (gn ≤ 10 * wt) = false := decide_eq_false hle
              have d3 : decide (10 * wt < gn) = true := decide_eq_true (by omega)
              clear hle
              go_wp2_with fail
              refine cAf.out.mono ?_
              rintro e s2 ⟨nx, ny, nz, mg, mo, mc, hRe, -, -, -, rfl, hRI, bR⟩
              have hnext := Lib.hid (show itK L b [gx, gy, gz] (j + 1) = [nx, ny, nz] by rw [← hst.out j x y z hNe.out]; exact hRe)
              have hRH := Lib.hid hRI
              have Bz := Lib.hid (below2 (below2 Bs6.out hBb.out) bR)
              clear hRe hRI bR cAf
              go_wp2
              go_roundw
              case rel => exact ⟨j + 1, nx, ny, nz, mg, mo, mc, by omega, by go_num, rfl, hnext, hRH, Bz⟩
              case measure => simp [intOf]; omega
            · go_wp2
              go_roundw
              case rel => exact ⟨k + 1, by omega, by go_num, Lib.hid (below2 hB.out Br7.out)⟩
              case measure => simp [intOf]; omega
      · --@11
        go_wp2
        go_ret
        exact ⟨rfl, below2 B2w.out hB.out⟩
end Go.Proofs.YtgfhjcbmilaegaaGreatDoor
