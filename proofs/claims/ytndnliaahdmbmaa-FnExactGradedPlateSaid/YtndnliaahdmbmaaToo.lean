/-
  Cells that are too thin, on both sides.
-/
import Derived.Test.YtndnliaahdmbmaaLow
import Derived.Test.YtndnliaahdmbmaaMas
import Derived.OwnWalk
namespace Go.Proofs.Ytndnliaahdmbmaa
open Go.ChangeShapes Go.WideShapes Go.ChangeAt Go.RowKit Go.Deep
set_option linter.unusedVariables false
set_option linter.unusedSimpArgs false
set_option maxRecDepth 1000000
def ttV (G : List (List Int)) (n : Int) : List (List Int) := if okP G && inB n 1 200 then loF n (hG G) (plAll G.length (colsG G)) else []
def ttC (G : List (List Int)) (n : Int) : Int := cod8 (okP G) (inB n 1 200)
theorem ttV_len (G : List (List Int)) (n : Int) : (ttV G n).length + totL (ttV G n) ≤ 1048576 := by
  unfold ttV
  split
  · rename_i hb
    have hok : okP G = true := (Bool.and_eq_true_iff.1 hb).1
    obtain ⟨_, h2, _, h4, _⟩ := okG_rows (okP_okG hok)
    have a := loF_len n (hG G) (plAll G.length (colsG G))
    have b := loF_tot n (hG G) (plAll G.length (colsG G))
    have c := plAll_hun h2 h4
    omega
  · simp [totL]
theorem OwnG.empty8 (w : World) : OwnG w.heap.size (w.alloc (.cells #[] 30)).heap.size (w.alloc (.cells #[] 30)) (.slice (some ⟨w.heap.size, 0, none⟩) 0 0) [] [] := by
  refine ⟨Nat.le_refl _, rfl, ⟨rfl, Or.inr ⟨w.heap.size, 0, #[], rfl, Nat.le_refl _, heap_alloc_new _ _, Nat.le_refl 0, by unfold maxLen; omega, rfl, rfl⟩⟩, fun i u Z h => by simp at h, fun i j u u' _ h => by simp at h, fun Z h => by simp at h, fun b h => ?_, fun i u h => by simp at h⟩
  simp only [Value.ownBlock, Option.some.injEq] at h
  simp; omega
set_option maxHeartbeats 3200000 in
theorem implTooThin_any (v : Value) (G : List (List Int)) (n : Int) (w : World) (hn : G.length + totL G ≤ 1048576) (hv : GridAt w v G) : Calls Try.prog 46 #[v, .int .i64 n] w (GridRet (ttV G n) (ttC G n) w) := by
  have cC := fun b => codeOfPlate_any v G b w hn hv
  have cI := fun W => isPlateThick_any n W
  have hT : ttV G n = if okP G && inB n 1 200 then loF n (hG G) (plAll G.length (colsG G)) else [] := rfl
  have hTC : ttC G n = cod8 (okP G) (inB n 1 200) := rfl
  cases hok : okP G
  · have e1 : Hid (ttV G n = []) := Lib.hid (by rw [hT, hok]; rfl)
    have e2 : Hid (ttC G n = 1) := Lib.hid (by rw [hTC, hok]; rfl)
    have cC' := Lib.hid (cC (inB n 1 200))
    rw [hok] at cC'
    obtain ⟨a, cap, rfl, _⟩ := hv
    obtain ⟨q, hq⟩ : ∃ q, q = inB n 1 200 := ⟨_, rfl⟩
    rw [← hq] at cC' cI
    rw [show cod8 false q = 1 from rfl] at cC'
    clear hT hTC hok hq cC
    go_enter Try.func46, Try.ntmps46
    go_wp2_with (first
      | (go_at_call 51; (with_reducible refine (cI _).mono ?_); rintro e w2 ⟨rfl, rfl⟩)
      | (go_at_call 54; (with_reducible refine cC'.out.mono ?_); rintro e w2 ⟨rfl, hd⟩))
    go_ret2
    exact gridRet_nil e1.out e2.out hd.below
  cases hb : inB n 1 200
  · have e1 : Hid (ttV G n = []) := Lib.hid (by rw [hT, hok, hb]; rfl)
    have e2 : Hid (ttC G n = 2) := Lib.hid (by rw [hTC, hok, hb]; rfl)
    have cC' := Lib.hid (cC false)
    rw [hok, show cod8 true false = 2 from rfl] at cC'
    rw [hb] at cI
    obtain ⟨a, cap, rfl, _⟩ := hv
    clear hT hTC hok hb cC
    go_enter Try.func46, Try.ntmps46
    go_wp2_with (first
      | (go_at_call 51; (with_reducible refine (cI _).mono ?_); rintro e w2 ⟨rfl, rfl⟩)
      | (go_at_call 54; (with_reducible refine cC'.out.mono ?_); rintro e w2 ⟨rfl, hd⟩))
    go_ret2
    exact gridRet_nil e1.out e2.out hd.below
  obtain ⟨g, o, cap, rg, ro, rc, rfl, hGR⟩ := grid_GR hv (okP_okG hok)
  have e1 : Hid (ttV G n = loF n (hG G) (plAll G.length (colsG G))) := Lib.hid (by rw [hT, hok, hb]; rfl)
  have e2 : Hid (ttC G n = 0) := Lib.hid (by rw [hTC, hok, hb]; rfl)
  have cC' := Lib.hid (cC true)
  rw [hok, show cod8 true true = 0 from rfl] at cC'
  rw [hb] at cI
  have cL := Lib.hid (fun W (hb : DrewOf w W) => low_grid n g o cap G.length (colsG G) rg ro rc (hG G) W (hGR.below hb.below))
  obtain ⟨LL, hLL⟩ : ∃ L, L = loF n (hG G) (plAll G.length (colsG G)) := ⟨_, rfl⟩
  rw [← hLL] at cL e1
  clear hT hTC hok hb hLL cC hGR hv
  go_enter Try.func46, Try.ntmps46
  go_wp2_with (first
    | (go_at_call 51; (with_reducible refine (cI _).mono ?_); rintro e w2 ⟨rfl, rfl⟩)
    | (go_at_call 54; (with_reducible refine cC'.out.mono ?_); rintro e w2 ⟨rfl, hd⟩)
    | (go_at_call 90; (with_reducible refine (cL.out _ hd).mono ?_); rintro e w3 ⟨v3, vs3, rfl, o3, b3⟩))
  go_ret2
  exact gridRet_mk e1.out e2.out o3 hd.below.size (below2 hd.below b3)
set_option maxHeartbeats 3200000 in
theorem specTooThin_any (v : Value) (G : List (List Int)) (n : Int) (w : World) (hn : G.length + totL G ≤ 1048576) (hv : GridAt w v G) : Calls Try.prog 45 #[v, .int .i64 n] w (GridRet (ttV G n) (ttC G n) w) := by
  obtain ⟨i0, hi, hz0, hz1, hz2⟩ := info_parts infoG
  have cV := Lib.hid (l08Ok_any v G w hn hv)
  have cI := fun W => l08Thick_any n W
  have hT : ttV G n = if okP G && inB n 1 200 then loF n (hG G) (plAll G.length (colsG G)) else [] := rfl
  have hTC : ttC G n = cod8 (okP G) (inB n 1 200) := rfl
  cases hok : okP G
  · have e1 : Hid (ttV G n = []) := Lib.hid (by rw [hT, hok]; rfl)
    have e2 : Hid (ttC G n = 1) := Lib.hid (by rw [hTC, hok]; rfl)
    rw [hok] at cV
    obtain ⟨a, cap, rfl, _⟩ := hv
    clear hT hTC hok
    go_enter Try.func45, Try.ntmps45
    go_wp2_with (go_at_call 48; refine cV.out.mono ?_; rintro e w2 ⟨rfl, hd⟩)
    go_ret2
    exact gridRet_nil e1.out e2.out hd.below
  rw [hok] at cV
  cases hb : inB n 1 200
  · have e1 : Hid (ttV G n = []) := Lib.hid (by rw [hT, hok, hb]; rfl)
    have e2 : Hid (ttC G n = 2) := Lib.hid (by rw [hTC, hok, hb]; rfl)
    rw [hb] at cI
    obtain ⟨a, cap, rfl, _⟩ := hv
    clear hT hTC hok hb
    go_enter Try.func45, Try.ntmps45
    go_wp2_with (first
      | (go_at_call 48; refine cV.out.mono ?_; rintro e w2 ⟨rfl, hd⟩)
      | (go_at_call 64; (with_reducible refine (cI _).mono ?_); rintro e w3 ⟨rfl, rfl⟩))
    go_ret2
    exact gridRet_nil e1.out e2.out hd.below
  obtain ⟨g, o, cap, rg, ro, rc, rfl, hGR⟩ := grid_GR hv (okP_okG hok)
  have e1 : Hid (ttV G n = loF n (hG G) (plAll G.length (colsG G))) := Lib.hid (by rw [hT, hok, hb]; rfl)
  have e2 : Hid (ttC G n = 0) := Lib.hid (by rw [hTC, hok, hb]; rfl)
  rw [hb] at cI
  obtain ⟨h, hh⟩ : ∃ h, h = hG G := ⟨_, rfl⟩
  obtain ⟨R, hR⟩ : ∃ R, R = G.length := ⟨_, rfl⟩
  obtain ⟨C, hC⟩ : ∃ C, C = colsG G := ⟨_, rfl⟩
  rw [← hR, ← hC, ← hh] at e1 hGR
  rw [← hR] at cV ⊢
  have hx := Lib.hid hGR
  have r1 := hGR.R1
  have r2 := hGR.R10
  have c1 := hGR.C1
  have c2 := hGR.C10
  clear hT hTC hok hb hn hv hGR hh hR hC
  go_enter Try.func45, Try.ntmps45
  go_wp2_with (first
    | (go_at_call 48; refine cV.out.mono ?_; rintro e w2 ⟨rfl, hd⟩)
    | (go_at_call 64; (with_reducible refine (cI _).mono ?_); rintro e w3 ⟨rfl, rfl⟩))
  have hst := Lib.hid (OwnG.empty8 w2)
  have hB5 : Below w.heap.size w (w2.alloc (.cells #[] 30)) := hd.below.alloc hd.below.size _
  obtain ⟨LO, hLO⟩ : ∃ LO, LO = w2.heap.size := ⟨_, rfl⟩
  have hLw : w.heap.size ≤ LO := by rw [hLO]; exact hd.below.size
  have hLs : LO ≤ (w2.alloc (.cells #[] 30)).heap.size := by rw [hLO]; simp
  rw [← hLO] at hst ⊢
  clear hLO hd
  generalize w2.alloc (.cells #[] 30) = w6 at hst hB5 hLs ⊢
  go_loopw [6, 7] (fun x i wr => ∃ (k : Nat) (pa : Option Addr) (LN pc : Nat) (vs : List Value), k ≤ R ∧ i = .int .i64 k ∧ x = .slice pa LN pc ∧ Hid (OwnG LO wr.heap.size wr (.slice pa LN pc) (loF n h (plTo C k 0)) vs) ∧ Hid (LN = (loF n h (plTo C k 0)).length) ∧ Below w.heap.size w wr ∧ LO ≤ wr.heap.size) (fun _ i _ => R - (intOf i).toNat)
  case atStart => exact ⟨0, _, 0, 0, [], by omega, rfl, rfl, hst, Lib.hid rfl, hB5, hLs⟩
  case round =>
    obtain ⟨k, pa, LN, pc, vs, hk, rfl, rfl, hO, hLN, hB, hLs⟩ := hrel
    by_cases hlt : k < R
    · have hkI : (k : Int) < (R : Int) := by omega
      go_wp2
      go_loopw [6, 8] (fun x i wr => ∃ (m : Nat) (pa : Option Addr) (LN pc : Nat) (vs : List Value), m ≤ C ∧ i = .int .i64 m ∧ x = .slice pa LN pc ∧ Hid (OwnG LO wr.heap.size wr (.slice pa LN pc) (loF n h (plTo C k m)) vs) ∧ Hid (LN = (loF n h (plTo C k m)).length) ∧ Below w.heap.size w wr ∧ LO ≤ wr.heap.size) (fun _ i _ => C - (intOf i).toNat)
      case atStart => exact ⟨0, pa, LN, pc, vs, by omega, rfl, rfl, hO, hLN, hB, hLs⟩
      case round =>
        obtain ⟨m, pa, LN, pc, vs, hm, rfl, rfl, hO, hLN, hB, hLs⟩ := hrel
        have hz := Lib.hid (hx.out.below hB)
        have t1 := hz.out.top k hlt
        by_cases hlm : m < C
        · have t2 := hz.out.cel k hlt m hlm
          have z1a := hz.out.h0 k m hlt hlm
          have z1b := hz.out.h1 k m hlt hlm
          have hnext := loF_next n h (plTo C k m) (k, m)
          rw [← plTo_next] at hnext
          have hll := loF_len n h (plTo C k m)
          have hpl : (plTo C k m).length ≤ 100 := Nat.le_trans (plTo_pre (R := R) (by omega) (by omega) (by omega)).length_le (plAll_hun r2 c2)
          obtain ⟨LL, hLL⟩ : ∃ L, L = loF n h (plTo C k m) := ⟨_, rfl⟩
          have hLN1 := hLN.out
          rw [← hLL] at hO hnext hll hLN1
          have hLN100 : LN ≤ 100 := by omega
          have hLN2 := Lib.hid hLN1
          dsimp only at hnext
          obtain ⟨z1, hz1⟩ : ∃ z, z = h k m := ⟨_, rfl⟩
          rw [← hz1] at t2 hnext z1a z1b
          have hmI : (m : Int) < (C : Int) := by omega
          clear hz1 hLL hll hpl hLN1 hLN
          by_cases hl : z1 < n
          rotate_left
          · have hr : Hid (loF n h (plTo C k (m + 1)) = LL) := Lib.hid (by rw [hnext, if_neg hl])
            clear hnext
            go_wp2
            go_roundw
            case rel => exact ⟨m + 1, pa, LN, pc, vs, by omega, by go_num, rfl, Lib.hid (by rw [hr.out]; exact hO.out), Lib.hid (by rw [hr.out]; exact hLN2.out), hB, hLs⟩
            case measure => simp [intOf]; omega
          · have hr : Hid (loF n h (plTo C k (m + 1)) = LL ++ [plR (k, m)]) := Lib.hid (by rw [hnext, if_pos hl])
            clear hnext
            have O5 := hO
            have B5 := Lib.hid hB
            have hLOw := hLs
            clear hO hB
            go_wp2_with (at_builtin; refine wpList_append_own _ rfl _ _ 22 rfl LO 30 i0 (.slice none 0 0) 1 24 Try.underlying22 hi hz0 hz1 hz2 rfl (by decide) _ LN vs rfl (((O5.out.top' hLN2.out).alloc _).alloc _) ⟨wr.heap.size + 1, 0, none⟩ 1 1 [.slice (some ⟨wr.heap.size, 0, none⟩) 2 2] rfl rfl ?c1 ?c2 ?c3 ?c4 ?c5 ?_)
            case c1 =>
              have hb := heap_alloc_new (wr.alloc (.cells #[.int .i64 (k : Int), .int .i64 (m : Int)] 2)) (.cells #[.slice (some ⟨wr.heap.size, 0, none⟩) 2 2] 30)
              rw [World.size_alloc] at hb
              exact World.news_of_block hb
            case c2 => intro u hu; simp at hu; subst hu; rfl
            case c3 => unfold maxLen; omega
            case c4 => omega
            case c5 => simp; omega
            intro v9 w9 hown9 hgrow9 _
            have b5 : Below wr.heap.size wr ((wr.alloc (.cells #[.int .i64 (k : Int), .int .i64 (m : Int)] 2)).alloc (.cells #[.slice (some ⟨wr.heap.size, 0, none⟩) 2 2] 30)) := ((Below.refl _ _).alloc (Nat.le_refl _) _).alloc (by simp) _
            have own2 : ((wr.alloc (.cells #[.int .i64 (k : Int), .int .i64 (m : Int)] 2)).alloc (.cells #[.slice (some ⟨wr.heap.size, 0, none⟩) 2 2] 30)).ownsRow wr.heap.size 2 1 (.slice (some ⟨wr.heap.size, 0, none⟩) 2 2) (plR (k, m)).length ((plR (k, m)).map encI) := by
              refine World.ownsRow.alloc ?_ _
              exact ⟨rfl, Or.inr ⟨_, _, _, rfl, Nat.le_refl _, heap_alloc_new _ _, by simp [plR], by unfold maxLen; omega, rfl, rfl⟩⟩
            have hbl : ∀ j, (Value.slice pa LN pc).ownBlock = some j → LO ≤ j := fun j hj => (O5.out.top.lt j hj).1
            have O9 := Lib.hid (O5.out.snoc (Z := plR (k, m)) b5 own2 (plR_in (by show k ≤ 1000; omega) (by show m ≤ 1000; omega)) hgrow9 (by rw [← hLN2.out]; exact hown9) hLOw (by decide))
            have B9 := Lib.hid ((B5.out.trans (b5.mono B5.out.size)).grown hgrow9 (Nat.le_trans B5.out.size b5.size) (fun j hj => by have := hbl j hj; omega))
            have hL9 : LO ≤ w9.heap.size := Nat.le_trans hLOw (Nat.le_trans b5.size hgrow9.size)
            obtain ⟨pa9, pc9, rfl⟩ := own_shape hown9
            clear hown9 hgrow9 b5 own2 hbl
            go_wp2
            go_roundw
            case rel => exact ⟨m + 1, pa9, LN + 1, pc9, _, by omega, by go_num, rfl, Lib.hid (by rw [hr.out]; exact O9.out), Lib.hid (by rw [hr.out, List.length_append, hLN2.out]; rfl), B9.out, hL9⟩
            case measure => simp [intOf]; omega
        · have hmC : m = C := by omega
          have hr : Hid (OwnG LO wr.heap.size wr (.slice pa LN pc) (loF n h (plTo C (k + 1) 0)) vs) := Lib.hid (by have := hO.out; rw [hmC, plTo_row] at this; exact this)
          have hr2 : Hid (LN = (loF n h (plTo C (k + 1) 0)).length) := Lib.hid (by have := hLN.out; rw [hmC, plTo_row] at this; exact this)
          clear hmC hO hLN
          go_wp2
          go_roundw
          case rel => exact ⟨k + 1, pa, LN, pc, vs, by omega, by go_num, rfl, hr, hr2, hB, hLs⟩
          case measure => simp [intOf]; omega
    · have hkR : k = R := by omega
      have hr : Hid (OwnG LO wr.heap.size wr (.slice pa LN pc) (loF n h (plAll R C)) vs) := Lib.hid (by have := hO.out; rw [hkR] at this; exact this)
      clear hkR hO hLN
      go_wp2
      go_ret2
      exact gridRet_mk e1.out e2.out hr.out hLw hB
end Go.Proofs.Ytndnliaahdmbmaa
