/-
  Ribs from the first strips: what comes of it, and the program's contract.
-/
import Derived.Test.YtgbjdjkmmmgnnaaStrip2
import Derived.BigQuiet
import Derived.Deep.QuietTactic
import Derived.Deep.RegionHeld3
import Derived.Deep.AppendLies
namespace Go.Proofs.Ytgbjdjkmmmgnnaa
open Go.ChangeShapes Go.WideShapes Go.ChangeAt Go.RowKit Go.Deep
set_option linter.unusedVariables false
set_option linter.unusedSimpArgs false
set_option maxRecDepth 1000000
/-- the first place from k on at which p holds, k + n if there is none before -/
def firstF (p : Nat → Bool) : Nat → Nat → Nat
  | k, 0 => k
  | k, n + 1 => if p k = true then k else firstF p (k + 1) n
theorem firstF_eq (p : Nat → Bool) (j : Nat) : ∀ n k, (∀ i, k ≤ i → i < j → p i = false) → k ≤ j → j ≤ k + n → (j < k + n → p j = true) → firstF p k n = j
  | 0, k, _, h1, h2, _ => by show k = j; omega
  | n + 1, k, h, h1, h2, h3 => by
    unfold firstF
    by_cases e : k = j
    · subst e; rw [if_pos (h3 (by omega))]
    · rw [if_neg (by rw [h k (Nat.le_refl _) (by omega)]; decide)]
      exact firstF_eq p j n (k + 1) (fun i hi hj => h i (by omega) hj) (by omega) (by omega) (fun hj => h3 (by omega))
def firstK (L W : Int) (U : List Int) (a : Int) : Nat := firstF (fun i => fitsK L W U i a) 0 U.length
def nofS (L W : Int) (U : List Int) (a : Int) (i : Nat) : Bool := !(fitsK L W U i a)
theorem firstK_eq {L W : Int} {U : List Int} {a : Int} {j : Nat} (h : allK (nofS L W U a) j = true) (hj : j ≤ U.length) (hf : fitsK L W U j a = true) : firstK L W U a = j := by
  refine firstF_eq _ _ _ _ (fun i _ hi => ?_) (Nat.zero_le _) (by omega) (fun _ => hf)
  have := (allK_iff _ _).1 h i hi
  unfold nofS at this
  simpa using this
theorem fits_last {L W : Int} {U : List Int} {a : Int} (h : a ≤ L) : fitsK L W U U.length a = true := by
  unfold fitsK leftK; rw [if_neg (by omega)]; exact decide_eq_true h
/-- what is left of the strips, and which ones the first k ribs got -/
def cutsS (L W : Int) (Z : List Rib) : Nat → List Int × List Int
  | 0 => ([], [])
  | k + 1 => (cutU L W (cutsS L W Z k).1 (firstK L W (cutsS L W Z k).1 (Z.getD k rib0).len) (Z.getD k rib0).len, (cutsS L W Z k).2 ++ [((firstK L W (cutsS L W Z k).1 (Z.getD k rib0).len : Nat) : Int)])
def inV (L : Int) (U : List Int) : Prop := ∀ u ∈ U, 0 ≤ u ∧ u ≤ L - 1
theorem inV_inU {L : Int} {U : List Int} (hL : L ≤ 100000) (h : inV L U) : inU U := fun u hu => by have := h u hu; omega
theorem getV {L : Int} {U : List Int} (h : inV L U) {k : Nat} (hk : k < U.length) : 0 ≤ U.getD k 0 ∧ U.getD k 0 ≤ L - 1 := by
  rw [List.getD_eq_getElem?_getD, List.getElem?_eq_getElem hk]; exact h _ (List.getElem_mem hk)
theorem mem_putU {U : List Int} {k : Nat} {v u : Int} (h : u ∈ putU U k v) : u ∈ U ∨ u = v := by
  unfold putU at h
  split at h
  · exact List.mem_or_eq_of_mem_set h
  · rw [List.mem_append, List.mem_singleton] at h; exact h
theorem inV_cut {L W : Int} {U : List Int} (h : inV L U) (hW : 0 ≤ W) {k : Nat} {a : Int} (ha : 1 ≤ a) (hf : fitsK L W U k a = true) : inV L (cutU L W U k a) := by
  intro u hu
  rcases mem_putU hu with h1 | rfl
  · exact h u h1
  · unfold fitsK at hf
    have hf := of_decide_eq_true hf
    refine ⟨by omega, ?_⟩
    unfold leftK
    by_cases hk : k < U.length
    · rw [if_pos hk]; have := getV h hk; omega
    · rw [if_neg hk]; omega
theorem cutU_len (L W : Int) (U : List Int) (k : Nat) (a : Int) : (cutU L W U k a).length ≤ U.length + 1 := by unfold cutU; rw [putU_len]; split <;> omega
theorem firstK_fits {L W : Int} {U : List Int} {a : Int} (h : a ≤ L) : fitsK L W U (firstK L W U a) a = true ∧ firstK L W U a ≤ U.length := by
  suffices H : ∀ n k, k + n = U.length → fitsK L W U (firstF (fun i => fitsK L W U i a) k n) a = true ∧ firstF (fun i => fitsK L W U i a) k n ≤ U.length from H U.length 0 (by omega)
  intro n
  induction n with
  | zero => intro k hk; show fitsK L W U k a = true ∧ k ≤ U.length; rw [show k = U.length by omega]; exact ⟨fits_last h, Nat.le_refl _⟩
  | succ n ih =>
    intro k hk
    unfold firstF
    by_cases e : fitsK L W U k a = true
    · rw [if_pos e]; exact ⟨e, by omega⟩
    · rw [if_neg e]; exact ih (k + 1) (by omega)
theorem cutsS_in {L W : Int} {Z : List Rib} (hz : ribsB Z = true) (hW : 0 ≤ W) (hs : allK (lngS Z L) Z.length = true) : ∀ k, k ≤ Z.length → inV L (cutsS L W Z k).1 ∧ (cutsS L W Z k).1.length ≤ k ∧ (cutsS L W Z k).2.length = k ∧ ∀ g ∈ (cutsS L W Z k).2, 0 ≤ g ∧ g ≤ 100
  | 0, _ => ⟨fun u hu => (by cases hu), Nat.le_refl _, rfl, fun u hu => (by cases hu)⟩
  | k + 1, hk => by
    obtain ⟨h1, h2, h3, h4⟩ := cutsS_in hz hW hs k (by omega)
    have hx := ribs_mem hz (List.getElem_mem (show k < Z.length by omega))
    have hle := of_decide_eq_true ((allK_iff _ _).1 hs k (by omega))
    have h8 := ribs_8 hz
    rw [rib_getD_at' (by omega)] at hle
    have hf := firstK_fits (L := L) (W := W) (U := (cutsS L W Z k).1) hle
    unfold cutsS
    rw [rib_getD_at' (by omega)]
    refine ⟨inV_cut h1 hW hx.1.1 hf.1, Nat.le_trans (cutU_len _ _ _ _ _) (by omega), by simp [h3], fun g hg => ?_⟩
    rw [List.mem_append, List.mem_singleton] at hg
    rcases hg with hg | rfl
    · exact h4 g hg
    · omega
def firC (Z : List Rib) (L W : Int) : Int := if ribsB Z = true then (if askB L W = true then (if allK (lngS Z L) Z.length = true then 0 else 6) else 2) else 1
def firV (Z : List Rib) (L W : Int) : List Int := if firC Z L W = 0 then (cutsS L W Z Z.length).2 else []
def firN (Z : List Rib) (L W : Int) : Int := if firC Z L W = 0 then ((cutsS L W Z Z.length).1.length : Int) else 0
theorem fir_bad {Z : List Rib} {L W c : Int} (e : firC Z L W = c) (hc : c ≠ 0) : firV Z L W = [] ∧ firN Z L W = 0 ∧ firC Z L W = c := by unfold firV firN; rw [e, if_neg hc, if_neg hc]; exact ⟨rfl, rfl, rfl⟩
theorem fir_good {Z : List Rib} {L W : Int} (e : firC Z L W = 0) : firV Z L W = (cutsS L W Z Z.length).2 ∧ firN Z L W = ((cutsS L W Z Z.length).1.length : Int) ∧ firC Z L W = 0 := by unfold firV firN; rw [e, if_pos rfl, if_pos rfl]; exact ⟨rfl, rfl, rfl⟩
theorem firV_in {Z : List Rib} {L W : Int} : (∀ x ∈ firV Z L W, inI x) ∧ (firV Z L W).length ≤ 8 := by
  by_cases e : firC Z L W = 0
  · rw [(fir_good e).1]
    unfold firC at e
    cases h1 : ribsB Z
    · rw [h1, if_neg (by decide)] at e; exact absurd e (by decide)
    rw [h1, if_pos rfl] at e
    cases h2 : askB L W
    · rw [h2, if_neg (by decide)] at e; exact absurd e (by decide)
    rw [h2, if_pos rfl] at e
    cases h3 : allK (lngS Z L) Z.length
    · rw [h3, if_neg (by decide)] at e; exact absurd e (by decide)
    unfold askB at h2
    rw [Bool.and_eq_true, inB_iff, inB_iff] at h2
    obtain ⟨_, _, q3, q4⟩ := cutsS_in h1 h2.2.1 h3 Z.length (Nat.le_refl _)
    exact ⟨fun x hx => by have := q4 x hx; unfold inI; omega, by rw [q3]; exact ribs_8 h1⟩
  · unfold firV; rw [if_neg e]; exact ⟨fun x hx => (by cases hx), by simp⟩
/-- a row of numbers, a number and a code -/
def RowNC (L : List Int) (n c : Int) (w : World) (e : Ending) (w' : World) : Prop := ∃ v, e = .returned (.tuple #[v, .int .i64 n, .int .i64 c]) ∧ w'.ownsRow w.heap.size 2 1 v L.length (L.map encI) ∧ Below w.heap.size w w'
theorem rowNC_nil {c c' n n' : Int} {L : List Int} {w w' : World} (h : L = [] ∧ n = n' ∧ c = c') (hb : Below w.heap.size w w') : RowNC L n c w (.returned (.tuple #[.slice none 0 0, .int .i64 n', .int .i64 c'])) w' := by
  obtain ⟨rfl, rfl, rfl⟩ := h; exact ⟨_, rfl, World.ownsRow_nil _ _ _ _, hb⟩
theorem rowNC_mk {c c' n n' : Int} {L L' : List Int} {v : Value} {w w' : World} {B : Nat} (h : L = L' ∧ n = n' ∧ c = c') (hB : w.heap.size ≤ B) (ho : w'.ownsRow B 2 1 v L'.length (L'.map encI)) (hb : Below w.heap.size w w') : RowNC L n c w (.returned (.tuple #[v, .int .i64 n', .int .i64 c'])) w' := by
  obtain ⟨rfl, rfl, rfl⟩ := h; exact ⟨_, rfl, own_low ho hB, hb⟩
set_option maxHeartbeats 6400000 in
theorem implFirstCuts_any (v : Value) (Z : List Rib) (L W : Int) (w : World) (hn : Z.length ≤ 1048576) (hv : RibsAt w v Z) : Calls Try.prog 29 #[v, .int .i64 L, .int .i64 W] w (RowNC (firV Z L W) (firN Z L W) (firC Z L W) w) := by
  have hv0 := Lib.hid hv
  clear hv
  cases h1 : ribsB Z
  · have hr := Lib.hid (fir_bad (show firC Z L W = 1 by unfold firC; rw [h1]; rfl) (by decide))
    go_enter Try.func29, Try.ntmps29
    go_wp2_with (first
      | (go_at_call 50; (with_reducible refine (newStrips_any _ _ _).mono ?_); rintro e w0 ⟨rfl, s0, b0⟩; have cV := Lib.hid (implValidRibs_any v Z w0 hn (hv0.out.below b0)); rw [h1] at cV)
      | (go_at_call 13; (with_reducible refine cV.out.mono ?_); rintro e w1 ⟨rfl, b1⟩; have s1 := s0.below b1; have B1 := below2 b0 b1; have cA := Lib.hid (areAsStated_any _ _ _ _ _ _ _ w1 s1)))
    go_ret3
    exact rowNC_nil hr.out B1
  cases h2 : askB L W
  · have hr := Lib.hid (fir_bad (show firC Z L W = 2 by unfold firC; rw [h1, h2]; rfl) (by decide))
    have h2' : (inB L 1 100000 && inB W 0 100) = false := h2
    go_enter Try.func29, Try.ntmps29
    go_wp2_with (first
      | (go_at_call 50; (with_reducible refine (newStrips_any _ _ _).mono ?_); rintro e w0 ⟨rfl, s0, b0⟩; have cV := Lib.hid (implValidRibs_any v Z w0 hn (hv0.out.below b0)); rw [h1] at cV)
      | (go_at_call 13; (with_reducible refine cV.out.mono ?_); rintro e w1 ⟨rfl, b1⟩; have s1 := s0.below b1; have B1 := below2 b0 b1; have cA := Lib.hid (areAsStated_any _ _ _ _ _ _ _ w1 s1))
      | (go_at_call 51; (with_reducible refine cA.out.mono ?_); rintro e _ ⟨rfl, rfl⟩))
    go_ret3
    exact rowNC_nil hr.out B1
  have h2' : (inB L 1 100000 && inB W 0 100) = true := h2
  have h8 := ribs_8 h1
  cases h3 : allK (lngS Z L) Z.length
  · have hr := Lib.hid (fir_bad (show firC Z L W = 6 by unfold firC; rw [h1, h2, h3]; rfl) (by decide))
    go_enter Try.func29, Try.ntmps29
    go_wp2_with (first
      | (go_at_call 50; (with_reducible refine (newStrips_any _ _ _).mono ?_); rintro e w0 ⟨rfl, s0, b0⟩; have cV := Lib.hid (implValidRibs_any v Z w0 hn (hv0.out.below b0)); rw [h1] at cV)
      | (go_at_call 13; (with_reducible refine cV.out.mono ?_); rintro e w1 ⟨rfl, b1⟩; have s1 := s0.below b1; have B1 := below2 b0 b1; have cA := Lib.hid (areAsStated_any _ _ _ _ _ _ _ w1 s1))
      | (go_at_call 51; (with_reducible refine cA.out.mono ?_); rintro e _ ⟨rfl, rfl⟩)
      | (go_at_call 52; (with_reducible refine (areTooShort_any _ _ _ _ _ _ _ v Z w1 (by omega) s1 (hv0.out.below B1)).mono ?_); rintro e w2 ⟨rfl, b2⟩; have s2 := s1.below b2; have B2 := below2 B1 b2))
    go_ret3
    exact rowNC_nil hr.out B2
  have hr := Lib.hid (fir_good (show firC Z L W = 0 by unfold firC; rw [h1, h2, h3]; rfl))
  have hLW : (1 ≤ L ∧ L ≤ 100000) ∧ (0 ≤ W ∧ W ≤ 100) := by rw [Bool.and_eq_true, inB_iff, inB_iff] at h2'; exact h2'
  have hin := Lib.hid (cutsS_in h1 hLW.2.1 h3)
  have hfit := Lib.hid (fun k (hk : k < Z.length) => show Z[k].len ≤ L by have := of_decide_eq_true ((allK_iff _ _).1 h3 k hk); rwa [rib_getD_at' hk] at this)
  have hmem := Lib.hid (fun k (hk : k < Z.length) => ribs_mem h1 (List.getElem_mem hk))
  obtain ⟨pa, cap, rfl, hcap, _, hread⟩ := hv0.out
  have hread' := Lib.hid hread
  clear hread
  go_enter Try.func29, Try.ntmps29
  go_wp2_with (first
      | (go_at_call 50; (with_reducible refine (newStrips_any _ _ _).mono ?_); rintro e w0 ⟨rfl, s0, b0⟩; have cV := Lib.hid (implValidRibs_any (.slice pa Z.length cap) Z w0 hn (hv0.out.below b0)); rw [h1] at cV)
      | (go_at_call 13; (with_reducible refine cV.out.mono ?_); rintro e w1 ⟨rfl, b1⟩; have s1 := s0.below b1; have B1 := below2 b0 b1; have cA := Lib.hid (areAsStated_any _ _ _ _ _ _ _ w1 s1))
      | (go_at_call 51; (with_reducible refine cA.out.mono ?_); rintro e _ ⟨rfl, rfl⟩)
      | (go_at_call 52; (with_reducible refine (areTooShort_any _ _ _ _ _ _ _ (.slice pa Z.length cap) Z w1 (by omega) s1 (hv0.out.below B1)).mono ?_); rintro e w2 ⟨rfl, b2⟩; have s2 := s1.below b2; have B2 := below2 B1 b2))
  have hs2 := Lib.hid s2
  have hB2 := Lib.hid B2
  have hzz : w.heap.size ≤ w2.heap.size := B2.size
  clear s0 b0 s1 b1 b2 s2 B1 B2 cV cA
  generalize hp : w.heap.size + 1 = p at hs2 ⊢
  generalize hm : w.heap.size = B at hs2 hzz hp ⊢
  have hB' := Lib.hid hm
  clear hm
  go_loopw [30] (fun i wr => ∃ k : Nat, k ≤ Z.length ∧ i = .int .i64 k ∧ Hid (StripAt B wr p B L W (cutsS L W Z k).1 (cutsS L W Z k).2) ∧ B ≤ wr.heap.size ∧ Hid (Below w.heap.size w wr)) (fun i _ => Z.length - (intOf i).toNat)
  case atStart => exact ⟨0, by omega, rfl, hs2, hzz, hB2⟩
  case round =>
    obtain ⟨k, hk, rfl, hst, hBz, hbel⟩ := hrel
    by_cases hlt : k < Z.length
    · rcases hread'.out with h | ⟨g, o, rfl, hg, hc⟩
      · subst h; simp at hlt
      have hltI : (k : Int) < (Z.length : Int) := by omega
      obtain ⟨i1, i2, i3, _⟩ := hin.out k (by omega)
      have hfk := hfit.out k hlt
      have hxm := (hmem.out k hlt).1
      obtain ⟨x, hx⟩ : ∃ x, x = Z[k] := ⟨_, rfl⟩
      have hr0 := range_below (hc k hlt) hg hbel.out
      have hstep1 : Hid ((cutsS L W Z (k + 1)).1 = cutU L W (cutsS L W Z k).1 (firstK L W (cutsS L W Z k).1 x.len) x.len ∧ (cutsS L W Z (k + 1)).2 = (cutsS L W Z k).2 ++ [((firstK L W (cutsS L W Z k).1 x.len : Nat) : Int)]) := Lib.hid (by
        rw [hx]
        have e : Z.getD k rib0 = Z[k] := rib_getD_at' hlt
        constructor
        · show cutU L W _ _ _ = _; rw [e]
        · show _ ++ _ = _; rw [e])
      rw [← hx] at hr0 hfk hxm
      obtain ⟨s, a, b⟩ := x
      simp only at hfk hxm hstep1
      have hr1 : wr.rangeAt g (o + k * 3) [.string s, .int .i64 a, .int .i64 b] := hr0
      obtain ⟨U, hU⟩ : ∃ U, U = (cutsS L W Z k).1 := ⟨_, rfl⟩
      obtain ⟨G, hG⟩ : ∃ G, G = (cutsS L W Z k).2 := ⟨_, rfl⟩
      rw [← hU, ← hG] at hst
      rw [← hU] at i1 i2
      rw [← hG] at i3
      rw [← hU, ← hG] at hstep1
      have hUi := Lib.hid (inV_inU hLW.1.2 i1)
      have hrb := Lib.hid (rib_box s a b wr)
      have hsA := Lib.hid (hst.out.below (w' := wr.alloc (.cells #[.string s, .int .i64 a, .int .i64 b] 50)) ((Below.refl _ _).alloc (Nat.le_refl _) _))
      have hbA := Lib.hid (hbel.out.alloc hbel.out.size (.cells #[.string s, .int .i64 a, .int .i64 b] 50))
      have hzA : wr.heap.size < (wr.alloc (.cells #[.string s, .int .i64 a, .int .i64 b] 50)).heap.size := by simp
      clear hr0 hx hc hst hU hG i1
      go_wp2_with (refine wpList_load_mid rfl _ _ rfl g (o + k * 3) rfl _ _ hr1 Try.underlying50 rfl rfl ?_)
      generalize wr.alloc (.cells #[.string s, .int .i64 a, .int .i64 b] 50) = W0 at hrb hsA hbA hzA ⊢
      generalize wr.heap.size = bx at hrb hzA hBz ⊢
      go_loopw [12] (fun q wq => ∃ j : Nat, j ≤ U.length ∧ q = .int .i64 j ∧ Hid (allK (nofS L W U a) j = true) ∧ Hid (StripAt B wq p B L W U G) ∧ RibAt wq bx 0 ⟨s, a, b⟩ ∧ bx < wq.heap.size ∧ Hid (Below w.heap.size w wq)) (fun q _ => U.length - (intOf q).toNat)
      case atStart => exact ⟨0, by omega, rfl, Lib.hid rfl, hsA, hrb.out, hzA, hbA⟩
      case round =>
        obtain ⟨j, hj, rfl, hall, hsq, hrq, hzq, hbq⟩ := hrel
        have hrq0 := hrq
        obtain ⟨x0, x1, x2⟩ := hrq0
        simp only at x0 x1 x2
        have hBq : B ≤ wr.heap.size := by omega
        cases hf : fitsK L W U j a
        · have cC := Lib.hid (cut_no B p B L W U G j s a b wr hLW.1 hLW.2 hUi.out hxm hj (by omega) (by omega) hBq hsq.out hf)
          have hne : j ≠ U.length := fun e => by rw [e, fits_last hfk] at hf; cases hf
          have hall2 : Hid (allK (nofS L W U a) (j + 1) = true) := Lib.hid (allK_yes hall.out (by unfold nofS; rw [hf]; rfl))
          go_wp2_with (go_at_call 53; (with_reducible refine cC.out.mono ?_); rintro e w4 ⟨rfl, s4, b4⟩)
          go_roundw
          case rel => exact ⟨j + 1, by omega, by go_num, hall2, Lib.hid s4, hrq.below hzq b4, Nat.lt_of_lt_of_le hzq b4.size, Lib.hid (below2 hbq.out b4)⟩
          case measure => simp [intOf]; omega
        · have cC := Lib.hid (cut_yes B p B L W U G j s a b wr hLW.1 hLW.2 hUi.out hxm hj (by omega) (by omega) hBq hsq.out hf)
          have hjj : firstK L W U a = j := firstK_eq hall.out hj hf
          rw [hjj] at hstep1
          go_wp2_with (go_at_call 53; (with_reducible refine cC.out.mono ?_); rintro e w4 ⟨rfl, s4, b4⟩)
          go_roundw
          case rel => exact ⟨k + 1, by omega, by go_num, Lib.hid (by rw [hstep1.out.1, hstep1.out.2]; exact s4), by have := b4.size; omega, Lib.hid (hbq.out.trans (hB'.out ▸ b4))⟩
          case measure => simp [intOf]; omega
    · have hkl : k = Z.length := by omega
      have hst2 : Hid (StripAt B wr p B L W (cutsS L W Z Z.length).1 (cutsS L W Z Z.length).2) := Lib.hid (hkl ▸ hst.out)
      have cU := Lib.hid (fun n => used_any B p B L W _ _ (wr.drewN n) (hst2.out.below (belowN (Below.refl _ _) n)))
      have h0 := hst2.out
      obtain ⟨_, _, ⟨gv, g1, g2⟩, _⟩ := h0
      have k3 := cellB g1 3 _ rfl
      have g2' := Lib.hid g2
      clear g1 hkl g2
      go_wp2
      go_quiet ((go_at_call 54; exact Qs (cU.out _)))
      go_wp2
      go_ret3
      exact rowNC_mk ⟨hr.out.1, hr.out.2.1, hr.out.2.2⟩ (Nat.le_of_eq hB'.out) (own_kept g2'.out (belowN (Below.refl _ _) _)) (belowN hbel.out _)
end Go.Proofs.Ytgbjdjkmmmgnnaa
