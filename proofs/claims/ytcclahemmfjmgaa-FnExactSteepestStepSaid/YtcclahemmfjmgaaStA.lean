/-
  The steepest step of an arch, by the program that has a helper for it; the value of both sides.
-/
import Derived.Test.YtcclahemmfjmgaaStp
import Derived.Test.YtcclahemmfjmgaaArchI
namespace Go.Proofs.Ytcclahemmfjmgaa
open Go.ChangeShapes Go.WideShapes Go.ChangeAt Go.RowKit Go.Deep
set_option linter.unusedVariables false
set_option linter.unusedSimpArgs false
def steV (G : List (List Int)) : Int := if okG G then mxF (dS (hG G) (plAll G.length (colsG G))) else 0
set_option maxHeartbeats 3200000 in
theorem implSteepestStep_any (v : Value) (G : List (List Int)) (w : World) (hn : G.length + totL G ≤ 1048576) (hv : GridAt w v G) : Calls Try.prog 22 #[v] w fun e w' => e = .returned (.tuple #[.int .i64 (steV G), .int .i64 (code (okG G) 1)]) ∧ Below w.heap.size w w' := by
  have cV := Lib.hid (implValidArch_any v G w hn hv)
  have hV : Hid (steV G = if okG G then mxF (dS (hG G) (plAll G.length (colsG G))) else 0) := Lib.hid rfl
  cases hok : okG G
  · rw [hok] at cV hV
    obtain ⟨a, cap, rfl, _⟩ := hv
    clear hok hn
    go_enter Try.func22, Try.ntmps22
    go_wp2_with (go_at_call 17; refine cV.out.mono ?_; rintro e w2 ⟨rfl, hd⟩)
    go_ret2
    exact ⟨by rw [hV.out]; rfl, hd.below⟩
  obtain ⟨g, o, cap, rg, ro, rc, rfl, hGR⟩ := grid_GR hv hok
  rw [hok] at cV hV
  rw [show steV G = mxF (dS (hG G) (plAll G.length (colsG G))) from hV.out]
  have cS0 := fun W (hb : Below w.heap.size w W) => steepestStep_any g o cap G.length (colsG G) rg ro rc (hG G) W (hGR.below hb)
  obtain ⟨M, hM⟩ : ∃ M, M = mxF (dS (hG G) (plAll G.length (colsG G))) := ⟨_, rfl⟩
  rw [← hM] at cS0 ⊢
  have cS := Lib.hid cS0
  clear hok hn hv hGR hV hM cS0
  go_enter Try.func22, Try.ntmps22
  go_wp2_with (first
    | (go_at_call 17; refine cV.out.mono ?_; rintro e w2 ⟨rfl, hd⟩)
    | (go_at_call 51; refine (cS.out _ hd.below).mono ?_; rintro e w3 ⟨rfl, b3⟩))
  go_ret2
  exact ⟨ret_int2 rfl rfl, below2 hd.below b3⟩
end Go.Proofs.Ytcclahemmfjmgaa
