/-
  The model's highest place; both agree.
-/
import Derived.Test.YtcclahemmfjmgaaHi
namespace Go.Proofs.Ytcclahemmfjmgaa
open Go.ChangeShapes Go.WideShapes Go.ChangeAt Go.RowKit Go.Deep
set_option linter.unusedVariables false
set_option linter.unusedSimpArgs false
theorem GR.drew {w w' : World} {g o cap R C : Nat} {rg ro rc : Nat → Nat} {h : Nat → Nat → Int} (x : GR w g o cap R C rg ro rc h) (hd : DrewOf w w') : GR w' g o cap R C rg ro rc h := x.below hd.below
set_option maxHeartbeats 3200000 in
theorem specHighestOf_any (v : Value) (G : List (List Int)) (w : World) (hn : G.length + totL G ≤ 1048576) (hv : GridAt w v G) : Calls Try.prog 19 #[v] w fun e w' => e = .returned (.tuple #[.int .i64 ((hiV G).1 : Int), .int .i64 ((hiV G).2 : Int), .int .i64 (code (okG G) 1)]) ∧ Below w.heap.size w w' := by
  have cV := Lib.hid (l07Ok_any v G w hn hv)
  have hV : Hid (hiV G = if okG G then hiF (hG G) (plAll G.length (colsG G)) else (0, 0)) := Lib.hid rfl
  cases hok : okG G
  · rw [hok] at cV hV
    obtain ⟨a, cap, rfl, _⟩ := hv
    clear hok hn
    go_enter Try.func19, Try.ntmps19
    go_wp2_with (go_at_call 42; refine cV.out.mono ?_; rintro e w2 ⟨rfl, hd⟩)
    go_ret3
    exact ⟨by rw [hV.out]; rfl, hd.below⟩
  obtain ⟨g, o, cap, rg, ro, rc, rfl, hGR⟩ := grid_GR hv hok
  rw [hok] at cV hV
  rw [show hiV G = hiF (hG G) (plAll G.length (colsG G)) from hV.out]
  obtain ⟨R, hR⟩ : ∃ R, R = G.length := ⟨_, rfl⟩
  obtain ⟨C, hC⟩ : ∃ C, C = colsG G := ⟨_, rfl⟩
  obtain ⟨h, hh⟩ : ∃ h, h = hG G := ⟨_, rfl⟩
  rw [← hR] at cV
  rw [← hR, ← hC, ← hh] at hGR ⊢
  have hx := Lib.hid hGR
  have hR1 := hGR.R1
  have hR2 := hGR.R10
  have hC1 := hGR.C1
  have hC2 := hGR.C10
  have hbd := Lib.hid (fun pre hp => hiF_pre (R := R) (C := C) hR1 hC1 h (pre := pre) hp)
  clear hok hn hv hGR hV hR hC hh
  go_enter Try.func19, Try.ntmps19
  go_wp2_with (go_at_call 42; refine cV.out.mono ?_; rintro e w2 ⟨rfl, hd⟩)
  go_loopw [5, 6, 7] (fun x y i wr => ∃ k b1 b2 : Nat, k ≤ R ∧ i = .int .i64 k ∧ x = .int .i64 b1 ∧ y = .int .i64 b2 ∧ Hid ((b1, b2) = hiF h (plTo C k 0)) ∧ DrewOf w wr) (fun _ _ i _ => R - (intOf i).toNat)
  case atStart => exact ⟨0, 0, 0, by omega, rfl, rfl, rfl, Lib.hid rfl, hd⟩
  case round =>
    obtain ⟨k, b1, b2, hk, rfl, rfl, rfl, hb, hd⟩ := hrel
    by_cases hlt : k < R
    · have hkI : (k : Int) < (R : Int) := by omega
      go_wp2
      go_loopw [5, 6, 8] (fun x y i wr => ∃ m b1 b2 : Nat, m ≤ C ∧ i = .int .i64 m ∧ x = .int .i64 b1 ∧ y = .int .i64 b2 ∧ Hid ((b1, b2) = hiF h (plTo C k m)) ∧ DrewOf w wr) (fun _ _ i _ => C - (intOf i).toNat)
      case atStart => exact ⟨0, b1, b2, by omega, rfl, rfl, rfl, hb, hd⟩
      case round =>
        obtain ⟨m, b1, b2, hm, rfl, rfl, rfl, hb, hd⟩ := hrel
        have hz := Lib.hid (hx.out.drew hd)
        have c1 := hz.out.top k hlt
        by_cases hlm : m < C
        · have c2 := hz.out.cel k hlt m hlm
          have hpre : plTo C k m <+: plAll R C := plTo_pre (by omega) (by omega) (by omega)
          obtain ⟨hb1, hb2⟩ := hbd.out _ hpre
          rw [← hb.out] at hb1 hb2
          dsimp only at hb1 hb2
          have hnext := hiF_next h (plTo C k m) (k, m)
          rw [← hb.out, ← plTo_next] at hnext
          dsimp only at hnext
          have c3 := hz.out.top b1 hb1
          have c4 := hz.out.cel b1 hb1 b2 hb2
          obtain ⟨z1, hz1⟩ : ∃ z, z = h k m := ⟨_, rfl⟩
          obtain ⟨z2, hz2⟩ : ∃ z, z = h b1 b2 := ⟨_, rfl⟩
          rw [← hz1] at c2 hnext
          rw [← hz2] at c4 hnext
          have hmI : (m : Int) < (C : Int) := by omega
          have hb1I : (b1 : Int) < (R : Int) := by omega
          have hb2I : (b2 : Int) < (C : Int) := by omega
          clear hz1 hz2 hpre
          by_cases hl : z2 < z1
          · have hr : Hid ((k, m) = hiF h (plTo C k (m + 1))) := Lib.hid (by rw [hnext, if_pos hl])
            clear hnext
            go_wp2
            go_quiet (fail)
            go_wp2
            go_roundw
            case rel => exact ⟨m + 1, k, m, by omega, by go_num, rfl, rfl, hr, hd.more _⟩
            case measure => simp [intOf]; omega
          · have hr : Hid ((b1, b2) = hiF h (plTo C k (m + 1))) := Lib.hid (by rw [hnext, if_neg hl])
            clear hnext
            go_wp2
            go_quiet (fail)
            go_wp2
            go_roundw
            case rel => exact ⟨m + 1, b1, b2, by omega, by go_num, rfl, rfl, hr, hd.more _⟩
            case measure => simp [intOf]; omega
        · have hmC : m = C := by omega
          have hr : Hid ((b1, b2) = hiF h (plTo C (k + 1) 0)) := Lib.hid (by have := hb.out; rw [hmC, plTo_row] at this; exact this)
          clear hmC hb
          go_wp2
          go_roundw
          case rel => exact ⟨k + 1, b1, b2, by omega, by go_num, rfl, rfl, hr, hd⟩
          case measure => simp [intOf]; omega
    · have hkR : k = R := by omega
      have hr : Hid ((b1, b2) = hiF h (plAll R C)) := Lib.hid (by have := hb.out; rw [hkR] at this; exact this)
      clear hkR hb
      go_wp2
      go_ret3
      exact ⟨by rw [← hr.out]; rfl, hd.below⟩
end Go.Proofs.Ytcclahemmfjmgaa
