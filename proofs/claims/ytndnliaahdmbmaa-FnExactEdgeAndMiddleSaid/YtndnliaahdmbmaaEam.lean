/-
  EdgeAndMiddle of the program.
-/
import Derived.Test.YtndnliaahdmbmaaMea
namespace Go.Proofs.Ytndnliaahdmbmaa
open Go.ChangeShapes Go.WideShapes Go.ChangeAt Go.RowKit Go.Deep
set_option linter.unusedVariables false
set_option linter.unusedSimpArgs false
set_option maxRecDepth 1000000
theorem ret_i3 {a b c a' b' c' : Int} (h1 : a = a') (h2 : b = b') (h3 : c = c') : Ending.returned (.tuple #[.int .i64 a, .int .i64 b, .int .i64 c]) = Ending.returned (.tuple #[.int .i64 a', .int .i64 b', .int .i64 c']) := by subst h1 h2 h3; rfl
/-- a place in the middle -/
def miB (R C i k : Nat) : Bool := !edB R C i k
def edF (G : List (List Int)) : Int × Int := mnF (edB G.length (colsG G)) (hG G) (plAll G.length (colsG G))
def miF8 (G : List (List Int)) : Int × Int := mnF (miB G.length (colsG G)) (hG G) (plAll G.length (colsG G))
def emB (G : List (List Int)) : Bool := decide ((miF8 G).2 > 0)
def emV (G : List (List Int)) : Int := if okP G && emB G then rnd (edF G).1 (edF G).2 else 0
def emM (G : List (List Int)) : Int := if okP G && emB G then rnd (miF8 G).1 (miF8 G).2 else 0
def emC (G : List (List Int)) : Int := if okP G = true then (if emB G = true then 0 else 6) else 1
set_option maxHeartbeats 6400000 in
theorem implEdgeAndMiddle_any (v : Value) (G : List (List Int)) (w : World) (hn : G.length + totL G ≤ 1048576) (hv : GridAt w v G) : Calls Try.prog 40 #[v] w fun e w' => e = .returned (.tuple #[.int .i64 (emV G), .int .i64 (emM G), .int .i64 (emC G)]) ∧ Below w.heap.size w w' := by
  have cV := Lib.hid (implValidPlate_any v G w hn hv)
  have hA0 : emV G = if okP G && emB G then rnd (edF G).1 (edF G).2 else 0 := rfl
  have hM0 : emM G = if okP G && emB G then rnd (miF8 G).1 (miF8 G).2 else 0 := rfl
  have hC0 : emC G = if okP G = true then (if emB G = true then 0 else 6) else 1 := rfl
  cases hok : okP G
  · have hA : Hid (emV G = 0) := Lib.hid (by rw [hA0, hok]; rfl)
    have hM : Hid (emM G = 0) := Lib.hid (by rw [hM0, hok]; rfl)
    have hC : Hid (emC G = 1) := Lib.hid (by rw [hC0, hok]; rfl)
    rw [hok] at cV
    obtain ⟨a, cap, rfl, _⟩ := hv
    clear hok hA0 hM0 hC0
    go_enter Try.func40, Try.ntmps40
    go_wp2_with (go_at_call 18; refine cV.out.mono ?_; rintro e w2 ⟨rfl, hd⟩)
    go_ret3
    exact ⟨ret_i3 hA.out.symm hM.out.symm hC.out.symm, hd.below⟩
  obtain ⟨g, o, cap, rg, ro, rc, rfl, hGR⟩ := grid_GR hv (okP_okG hok)
  rw [hok] at cV
  have cE0 := fun W (hb : Below w.heap.size w W) => meanBound_any 77 (.slice (some ⟨g, o, none⟩) G.length cap) (edB G.length (colsG G)) (enters_of Try.func77 (by kernel_rfl) rfl) g o cap G.length (colsG G) rg ro rc (hG G) W (hGR.below hb) (fun W2 h2 i k hi hk => isEdge8_any g o cap G.length (colsG G) rg ro rc (hG G) W2 (hGR.below (hb.trans (h2.mono hb.size))) i k hi hk)
  have cM0 := fun W (hb : Below w.heap.size w W) bp (hc : W.cell? ⟨bp, 0, none⟩ = some (.slice (some ⟨g, o, none⟩) G.length cap)) => meanCaps_any 78 #[.pointer (some ⟨bp, 0, none⟩)] (miB G.length (colsG G)) (enters_of Try.func78 (by kernel_rfl) rfl) g o cap G.length (colsG G) rg ro rc (hG G) W (hGR.below hb) (fun W2 h2 i k hi hk => em1_any g o cap G.length (colsG G) rg ro rc (hG G) W2 (hGR.below (hb.trans (h2.mono hb.size))) i k bp hi hk ((h2.cell (p := ⟨bp, 0, none⟩) (World.block_lt_of_cell? W _ hc)).trans hc))
  obtain ⟨E, hE⟩ : ∃ E, E = rnd (edF G).1 (edF G).2 := ⟨_, rfl⟩
  obtain ⟨M, hM⟩ : ∃ M, M = rnd (miF8 G).1 (miF8 G).2 := ⟨_, rfl⟩
  obtain ⟨qe, hqe⟩ : ∃ q, q = decide ((edF G).2 > 0) := ⟨_, rfl⟩
  have hqm : emB G = decide ((miF8 G).2 > 0) := rfl
  unfold edF at hE hqe
  unfold miF8 at hM hqm
  rw [← hE, ← hqe] at cE0
  rw [← hM, ← hqm] at cM0
  have hE' : rnd (edF G).1 (edF G).2 = E := hE.symm
  have hM' : rnd (miF8 G).1 (miF8 G).2 = M := hM.symm
  rw [hE'] at hA0
  rw [hM'] at hM0
  have cE := Lib.hid cE0
  clear hE hM hqe hqm hE' hM' cE0 hv hn hGR
  cases hq : emB G <;> rw [hq] at cM0
  · have hA : Hid (emV G = 0) := Lib.hid (by rw [hA0, hok, hq]; rfl)
    have hM : Hid (emM G = 0) := Lib.hid (by rw [hM0, hok, hq]; rfl)
    have hC : Hid (emC G = 6) := Lib.hid (by rw [hC0, hok, hq]; rfl)
    have cM := Lib.hid cM0
    clear hok hq hA0 hM0 hC0 cM0
    go_enter Try.func40, Try.ntmps40
    go_wp2_with fail
    refine cV.out.mono ?_
    rintro e w2 ⟨rfl, hd⟩
    have B2 := hd.below
    clear cV hd
    go_wp2_with fail
    obtain ⟨q1, hB0, hsz⟩ := one_boxP w2 #[.slice (some ⟨g, o, none⟩) G.length cap] 76
    generalize (w2.alloc (.cells #[.slice (some ⟨g, o, none⟩) G.length cap] 76)) = W0 at q1 hB0 hsz ⊢
    have c0 := q1 0 _ rfl
    have B3 := below2 B2 hB0
    clear q1 hB0
    refine (cE.out W0 B3).mono ?_
    rintro e w3 ⟨rfl, b3⟩
    replace c0 := (b3.cell (p := ⟨w2.heap.size, 0, none⟩) hsz).trans c0
    have B4 := below2 B3 b3
    have cM1 := Lib.hid (cM.out w3 B4 _ c0)
    clear b3 B3 cE cM
    go_wp2_with fail
    refine cM1.out.mono ?_
    rintro e w4 ⟨rfl, b4⟩
    have B5 := below2 B4 b4
    clear cM1 b4 B4
    go_wp2
    go_ret3
    exact ⟨ret_i3 hA.out.symm hM.out.symm hC.out.symm, B5⟩
  · have hA : Hid (emV G = E) := Lib.hid (by rw [hA0, hok, hq]; rfl)
    have hM : Hid (emM G = M) := Lib.hid (by rw [hM0, hok, hq]; rfl)
    have hC : Hid (emC G = 0) := Lib.hid (by rw [hC0, hok, hq]; rfl)
    have cM := Lib.hid cM0
    clear hok hq hA0 hM0 hC0 cM0
    go_enter Try.func40, Try.ntmps40
    go_wp2_with fail
    refine cV.out.mono ?_
    rintro e w2 ⟨rfl, hd⟩
    have B2 := hd.below
    clear cV hd
    go_wp2_with fail
    obtain ⟨q1, hB0, hsz⟩ := one_boxP w2 #[.slice (some ⟨g, o, none⟩) G.length cap] 76
    generalize (w2.alloc (.cells #[.slice (some ⟨g, o, none⟩) G.length cap] 76)) = W0 at q1 hB0 hsz ⊢
    have c0 := q1 0 _ rfl
    have B3 := below2 B2 hB0
    clear q1 hB0
    refine (cE.out W0 B3).mono ?_
    rintro e w3 ⟨rfl, b3⟩
    replace c0 := (b3.cell (p := ⟨w2.heap.size, 0, none⟩) hsz).trans c0
    have B4 := below2 B3 b3
    have cM1 := Lib.hid (cM.out w3 B4 _ c0)
    clear b3 B3 cE cM
    go_wp2_with fail
    refine cM1.out.mono ?_
    rintro e w4 ⟨rfl, b4⟩
    have B5 := below2 B4 b4
    clear cM1 b4 B4
    go_wp2
    go_ret3
    exact ⟨ret_i3 hA.out.symm hM.out.symm hC.out.symm, B5⟩
end Go.Proofs.Ytndnliaahdmbmaa
