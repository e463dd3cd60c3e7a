/-
  ThinAll of the model.
-/
import Derived.Test.YtndnliaahdmbmaaThn
namespace Go.Proofs.Ytndnliaahdmbmaa
open Go.ChangeShapes Go.WideShapes Go.ChangeAt Go.RowKit Go.Deep
set_option linter.unusedVariables false
set_option linter.unusedSimpArgs false
set_option maxRecDepth 1000000
set_option maxHeartbeats 3200000 in
theorem specThinAll_any (v : Value) (G : List (List Int)) (b l : Int) (w : World) (hn : G.length + totL G ≤ 1048576) (hv : GridAt w v G) : Calls Try.prog 30 #[v, .int .i64 b, .int .i64 l] w (GridRet (taV G b l) (cod8 (okP G) (byB b l)) w) := by
  have cV := Lib.hid (l08Ok_any v G w hn hv)
  have cW := Lib.hid (fun W => l08By_any b l W)
  have hV0 : taV G b l = if okP G && byB b l then thnG b l G.length (colsG G) (hG G) else [] := rfl
  cases hok : okP G
  · have e1 : Hid (taV G b l = []) := Lib.hid (by rw [hV0, hok]; rfl)
    rw [hok] at cV
    obtain ⟨a, cap, rfl, _⟩ := hv
    clear hV0 hok
    obtain ⟨q, hq⟩ : ∃ q, q = byB b l := ⟨_, rfl⟩
    rw [← hq]
    clear hq
    rw [show cod8 false q = 1 from rfl]
    go_enter Try.func30, Try.ntmps30
    go_wp2_with (go_at_call 48; refine cV.out.mono ?_; rintro e w2 ⟨rfl, hd⟩)
    go_ret2
    exact gridRet_nil e1.out rfl hd.below
  cases hwd : byB b l
  · have e1 : Hid (taV G b l = []) := Lib.hid (by rw [hV0, hok, hwd]; rfl)
    rw [hok] at cV
    rw [hwd] at cW
    obtain ⟨a, cap, rfl, _⟩ := hv
    clear hV0 hok hwd
    rw [show cod8 true false = 2 from rfl]
    go_enter Try.func30, Try.ntmps30
    go_wp2_with (first
      | (go_at_call 48; refine cV.out.mono ?_; rintro e w2 ⟨rfl, hd⟩)
      | (go_at_call 59; refine (cW.out _).mono ?_; rintro e w3 ⟨rfl, rfl⟩))
    go_ret2
    exact gridRet_nil e1.out rfl hd.below
  have e1 : Hid (taV G b l = thnG b l G.length (colsG G) (hG G)) := Lib.hid (by rw [hV0, hok, hwd]; rfl)
  obtain ⟨g, o, cap, rg, ro, rc, rfl, hGR⟩ := grid_GR hv (okP_okG hok)
  obtain ⟨hbb, hll⟩ := byB_bd hwd
  rw [hok] at cV
  rw [hwd] at cW
  have cM := Lib.hid (fun W (hb : DrewOf w W) => l08All_any b l hbb hll g o cap G.length (colsG G) rg ro rc (hG G) W (hGR.drew8 hb))
  obtain ⟨M, hM⟩ : ∃ M, M = thnG b l G.length (colsG G) (hG G) := ⟨_, rfl⟩
  rw [← hM] at cM e1
  clear hV0 hok hwd hM hbb hll hGR hv
  rw [show cod8 true true = 0 from rfl]
  go_enter Try.func30, Try.ntmps30
  go_wp2_with (first
    | (go_at_call 48; refine cV.out.mono ?_; rintro e w2 ⟨rfl, hd⟩)
    | (go_at_call 59; refine (cW.out _).mono ?_; rintro e w3 ⟨rfl, rfl⟩)
    | (go_at_call 60; refine (cM.out _ hd).mono ?_; rintro e w4 ⟨v4, vs4, rfl, o4, b4⟩))
  go_ret2
  exact gridRet_mk e1.out rfl o4 hd.below.size (below2 hd.below b4)
end Go.Proofs.Ytndnliaahdmbmaa
