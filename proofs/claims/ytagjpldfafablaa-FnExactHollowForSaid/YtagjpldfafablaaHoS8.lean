/-
  Hollows: the model.
-/
import Derived.Test.YtagjpldfafablaaSmoS8
namespace Go.Proofs.Ytagjpldfafablaa
open Go.ChangeShapes Go.WideShapes Go.ChangeAt Go.RowKit Go.Deep
set_option linter.unusedVariables false
set_option linter.unusedSimpArgs false
def hoB (G : List (List Int)) (n : Int) : Bool := decide (∀ a, a < G.length → ∀ b, b < colsG G → n ≤ hG G a b)
def hoV (G : List (List Int)) (n : Int) : List (List Int) := if okG G && inB n 0 1000 && hoB G n then gridF G.length (colsG G) (fun a b => hG G a b - n) else []
def hoC (G : List (List Int)) (n : Int) : Int := if okG G then (if inB n 0 1000 then (if hoB G n then 0 else 6) else 2) else 1
theorem hoV_len (G : List (List Int)) (n : Int) : (hoV G n).length + totL (hoV G n) ≤ 1048576 := by
  unfold hoV
  split
  · rename_i hb
    have hok : okG G = true := by simp only [Bool.and_eq_true] at hb; exact hb.1.1
    obtain ⟨_, h2, _, h4, _⟩ := okG_rows hok
    rw [gridF_tot]
    have : G.length * colsG G ≤ 10 * 10 := Nat.mul_le_mul h2 h4
    simp [gridF]; omega
  · simp [totL]
set_option maxRecDepth 100000 in
set_option maxHeartbeats 12800000 in
theorem specHollowFor_any (v : Value) (G : List (List Int)) (n : Int) (w : World) (hn : G.length + totL G ≤ 1048576) (hv : GridAt w v G) : Calls Try.prog 12 #[v, .int .i64 n] w (GridRet (hoV G n) (hoC G n) w) := by
  have cV := Lib.hid (l07Ok_any v G w hn hv)
  have cH0 := fun W => l07Height_any n W
  have hV : Hid (hoV G n = if okG G && inB n 0 1000 && hoB G n then gridF G.length (colsG G) (fun a b => hG G a b - n) else []) := Lib.hid rfl
  have hC0 : Hid (hoC G n = if okG G then (if inB n 0 1000 then (if hoB G n then 0 else 6) else 2) else 1) := Lib.hid rfl
  cases hok : okG G
  · have e1 := Lib.hid (show hoV G n = [] by rw [hV.out, hok]; rfl)
    have e2 := Lib.hid (show hoC G n = 1 by rw [hC0.out, hok]; rfl)
    rw [hok] at cV
    obtain ⟨a, cap, rfl, _⟩ := hv
    clear hok hn hV hC0 cH0
    go_enter Try.func12, Try.ntmps12
    go_wp2_with (go_at_call 28; refine cV.out.mono ?_; rintro e w2 ⟨rfl, hd⟩)
    go_ret2
    exact gridRet_nil e1.out e2.out hd.below
  obtain ⟨g, o, cap, rg, ro, rc, rfl, hGR⟩ := grid_GR hv hok
  rw [hok] at cV hV hC0
  cases hin : inB n 0 1000
  · have e1 := Lib.hid (show hoV G n = [] by rw [hV.out, hin]; rfl)
    have e2 := Lib.hid (show hoC G n = 2 by rw [hC0.out, hin]; rfl)
    rw [hin] at cH0
    have cH := Lib.hid cH0
    clear hok hin hn hv hV hC0 cH0 hGR
    go_enter Try.func12, Try.ntmps12
    go_wp2_with (first
      | (go_at_call 28; refine cV.out.mono ?_; rintro e w2 ⟨rfl, hd⟩)
      | (go_at_call 37; refine (cH.out _).mono ?_; rintro e w3 ⟨rfl, rfl⟩))
    go_ret2
    exact gridRet_nil e1.out e2.out hd.below
  rw [hin] at cH0 hV hC0
  have cH := Lib.hid cH0
  have hnb : 0 ≤ n ∧ n ≤ 1000 := by simpa [inB] using hin
  have hOB : Hid (hoB G n = decide (∀ a, a < G.length → ∀ b, b < colsG G → n ≤ hG G a b)) := Lib.hid rfl
  obtain ⟨PV, hPV⟩ : ∃ x, x = hoV G n := ⟨_, rfl⟩
  obtain ⟨PC, hPC⟩ : ∃ x, x = hoC G n := ⟨_, rfl⟩
  obtain ⟨OB, hOBe⟩ : ∃ x, x = hoB G n := ⟨_, rfl⟩
  rw [← hPV, ← hOBe] at hV
  rw [← hPC, ← hOBe] at hC0
  rw [← hOBe] at hOB
  rw [← hPV, ← hPC]
  obtain ⟨R, hR⟩ : ∃ R, R = G.length := ⟨_, rfl⟩
  obtain ⟨C, hC⟩ : ∃ C, C = colsG G := ⟨_, rfl⟩
  obtain ⟨h, hh⟩ : ∃ h, h = hG G := ⟨_, rfl⟩
  rw [← hR] at cV
  rw [← hR, ← hC, ← hh] at hGR hV hOB
  rw [← hR]
  have hx := Lib.hid hGR
  have r2 := hGR.R10
  have c2 := hGR.C10
  have hnb0 := hnb.1
  have hnb1 := hnb.2
  clear hok hin hn hv hGR hPV hPC hOBe hR hC hh hnb cH0
  go_enter Try.func12, Try.ntmps12
  go_wp2_with fail
  refine cV.out.mono ?_
  rintro e w3 ⟨rfl, hd⟩
  have cO := Lib.hid (l07Own_any g o cap R C rg ro rc h w3 (hx.out.drew hd))
  go_wp2_with (go_at_call 37; refine (cH.out _).mono ?_; rintro e w3 ⟨rfl, rfl⟩)
  refine cO.out.mono ?_
  rintro e w4 ⟨v4, vs, rfl, O4, b4⟩
  obtain ⟨a4, cap4, rfl⟩ := own_shape O4.top
  rw [gridF_len]
  rw [gridF_len] at O4
  have hB4 := Lib.hid (hd.below.trans (b4.mono hd.below.size))
  have hLw : w.heap.size ≤ w3.heap.size := hd.below.size
  obtain ⟨LO, hLO⟩ : ∃ n, n = w3.heap.size := ⟨_, rfl⟩
  obtain ⟨HI, hHI⟩ : ∃ n, n = w4.heap.size := ⟨_, rfl⟩
  rw [← hLO, ← hHI] at O4
  rw [← hLO] at hLw
  have hO4 := Lib.hid O4
  have hst : Hid (∀ a b, b < C → h a b = if a < 0 ∨ (a = 0 ∧ b < 0) then h a b - n else h a b) := Lib.hid (fun a b _ => by rw [if_neg (by omega)])
  have hge0 : Hid (∀ a b, b < C → (a < 0 ∨ (a = 0 ∧ b < 0)) → n ≤ h a b) := Lib.hid (fun a b _ hab => by omega)
  clear cV cO hd b4 O4 hLO hHI
  go_wp2
  go_loopw [7] (fun i wr => ∃ (k : Nat) (φ : Nat → Nat → Int), k ≤ R ∧ i = .int .i64 k ∧ Hid (∀ a b, b < C → φ a b = if a < k ∨ (a = k ∧ b < 0) then h a b - n else h a b) ∧ Hid (∀ a b, b < C → (a < k ∨ (a = k ∧ b < 0)) → n ≤ h a b) ∧ Hid (OwnG LO HI wr (.slice a4 R cap4) (gridF R C φ) vs) ∧ Hid (Below w.heap.size w wr)) (fun i _ => R - (intOf i).toNat)
  case atStart => exact ⟨0, h, by omega, rfl, hst, hge0, hO4, hB4⟩
  case round =>
    obtain ⟨k, φ, hk, rfl, hφ, hge, hO, hB⟩ := hrel
    by_cases hlt : k < R
    · have hkI : (k : Int) < (R : Int) := by omega
      go_wp2
      go_loopw [8] (fun i wr => ∃ (m : Nat) (φ : Nat → Nat → Int), m ≤ C ∧ i = .int .i64 m ∧ Hid (∀ a b, b < C → φ a b = if a < k ∨ (a = k ∧ b < m) then h a b - n else h a b) ∧ Hid (∀ a b, b < C → (a < k ∨ (a = k ∧ b < m)) → n ≤ h a b) ∧ Hid (OwnG LO HI wr (.slice a4 R cap4) (gridF R C φ) vs) ∧ Hid (Below w.heap.size w wr)) (fun i _ => C - (intOf i).toNat)
      case atStart => exact ⟨0, φ, by omega, rfl, hφ, hge, hO, hB⟩
      case round =>
        obtain ⟨m, φ, hm, rfl, hφ, hge, hO, hB⟩ := hrel
        have hkG : k < (gridF R C φ).length := by rw [gridF_len]; exact hlt
        by_cases hlm : m < C
        · have hmI : (m : Int) < (C : Int) := by omega
          have hmG : m < ((gridF R C φ)[k]).length := by rw [gridF_row]; simpa using hlm
          have hcur : ((gridF R C φ)[k])[m] = h k m := by
            have : ((gridF R C φ)[k])[m] = φ k m := by simp [gridF]
            rw [this, hφ.out k m hlm, if_neg (by omega)]
          have za := hx.out.h0 k m hlt hlm
          have zb := hx.out.h1 k m hlt hlm
          obtain ⟨z, hz⟩ : ∃ z, z = h k m := ⟨_, rfl⟩
          rw [← hz] at hcur za zb
          obtain ⟨gt, capt, g9, n9, cap9, hv4, hn9, hlo, hhi, hpl0⟩ := hO.out.place (z := z - n) hkG hmG ⟨by omega, by omega⟩
          rw [gridF_row] at hn9
          have hn9' : C = n9 := by rw [hn9]; simp
          have ha4 : a4 = some ⟨gt, 0, none⟩ := by injection hv4
          rw [gridF_set hkG, hcur] at hpl0
          subst hn9' ha4
          obtain ⟨q1, q2, q3, q4, q5⟩ := hpl0 wr (Below.refl _ _)
          have q2' : wr.cell? ⟨g9, m, none⟩ = some (.int .i64 z) := q2
          have hwz : IntKind.i64.wrap (z - n) = z - n := IntWalk.i64_in _ (by omega)
          have hz' := Lib.hid hz
          have hlo' := Lib.hid hlo
          clear q2 hpl0 hcur hmG hkG hv4 hn9 hlo hhi hz hO
          by_cases hs : z < n
          · have e1 := Lib.hid (show PV = [] by
              rw [hV.out]
              have : OB = false := by
                rw [hOB.out, decide_eq_false_iff_not]
                intro hall
                have := hall k hlt m hlm
                rw [← hz'.out] at this
                omega
              rw [this]; rfl)
            have e2 := Lib.hid (show PC = 6 by
              rw [hC0.out]
              have : OB = false := by
                rw [hOB.out, decide_eq_false_iff_not]
                intro hall
                have := hall k hlt m hlm
                rw [← hz'.out] at this
                omega
              rw [this]; rfl)
            clear hφ hge hV hC0
            go_wp2
            go_ret2
            exact gridRet_nil e1.out e2.out hB.out
          · have hφ' : Hid (∀ a b, b < C → (if a = k ∧ b = m then z - n else φ a b) = if a < k ∨ (a = k ∧ b < m + 1) then h a b - n else h a b) := Lib.hid (fun a b hb => by
              by_cases e : a = k ∧ b = m
              · obtain ⟨rfl, rfl⟩ := e
                rw [if_pos ⟨rfl, rfl⟩, if_pos (by omega), hz'.out]
              · rw [if_neg e, hφ.out a b hb]
                by_cases e2 : a < k ∨ (a = k ∧ b < m)
                · rw [if_pos e2, if_pos (by omega)]
                · rw [if_neg e2, if_neg (by omega)])
            have hge' : Hid (∀ a b, b < C → (a < k ∨ (a = k ∧ b < m + 1)) → n ≤ h a b) := Lib.hid (fun a b hb hab => by
              by_cases e : a = k ∧ b = m
              · obtain ⟨rfl, rfl⟩ := e
                rw [← hz'.out]; omega
              · exact hge.out a b hb (by omega))
            have B9 := Lib.hid (hB.out.grown q5.out (by have := hB.out.size; omega) (fun j hj => by injection hj with hj; have := hlo'.out; omega))
            clear hφ hge hB
            go_wp2
            go_roundw
            case rel => exact ⟨m + 1, _, by omega, by go_num, hφ', hge', q4, B9⟩
            case measure => simp [intOf]; omega
        · have hmC : m = C := by omega
          have hφ' : Hid (∀ a b, b < C → φ a b = if a < k + 1 ∨ (a = k + 1 ∧ b < 0) then h a b - n else h a b) := Lib.hid (fun a b hb => by
            rw [hφ.out a b hb]
            by_cases e2 : a < k ∨ (a = k ∧ b < m)
            · rw [if_pos e2, if_pos (by omega)]
            · rw [if_neg e2, if_neg (by omega)])
          have hge' : Hid (∀ a b, b < C → (a < k + 1 ∨ (a = k + 1 ∧ b < 0)) → n ≤ h a b) := Lib.hid (fun a b hb hab => hge.out a b hb (by omega))
          have hrow : ∃ gt rb cb, a4 = some ⟨gt, 0, none⟩ ∧ wr.cell? ⟨gt, k, none⟩ = some (.slice rb C cb) := by
            have hO' := hO.out
            rcases hO'.top.2 with ⟨_, h2⟩ | ⟨gt, cap', cur, hv, _⟩
            · omega
            · injection hv with h1 _ _
              subst h1
              have hl : k < vs.length := by rw [hO'.len]; exact hkG
              have hr := hO'.row k _ _ (List.getElem?_eq_getElem hl) (List.getElem?_eq_getElem hkG)
              obtain ⟨rb, cb, hrb⟩ := own_shape hr
              refine ⟨gt, rb, cb, rfl, ?_⟩
              rw [hO'.cellAt (by rw [gridF_len]) hlt, List.getElem?_eq_getElem hl, hrb, gridF_row hkG]
              simp
          obtain ⟨gt, rb, cb, ha4, q1⟩ := hrow
          subst ha4
          clear hmC hφ hge hkG
          go_wp2
          go_roundw
          case rel => exact ⟨k + 1, φ, by omega, by go_num, hφ', hge', hO, hB⟩
          case measure => simp [intOf]; omega
    · have hkR : k = R := by omega
      have hOBt : OB = true := by
        rw [hOB.out, decide_eq_true_eq]
        intro a ha b hb
        exact hge.out a b hb (by omega)
      have e1 := Lib.hid (show PV = gridF R C φ by
        rw [hV.out, hOBt]
        show gridF R C (fun a b => h a b - n) = gridF R C φ
        exact gridF_congr (fun a b ha hb => by rw [hφ.out a b hb, if_pos (by omega)]))
      have e2 := Lib.hid (show PC = 0 by rw [hC0.out, hOBt]; rfl)
      clear hkR hφ hge hOBt
      go_wp2
      go_ret2
      exact gridRet_mk e1.out e2.out (hO.out.wide hO.out.hiW (Nat.le_refl _)) hLw hB.out
end Go.Proofs.Ytagjpldfafablaa
