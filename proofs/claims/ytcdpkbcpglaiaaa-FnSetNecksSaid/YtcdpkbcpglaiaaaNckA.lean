/-
  Lists of necks: their first error, on both sides.
-/
import Derived.Test.YtcdpkbcpglaiaaaNcks3
import Derived.Test.YtcdpkbcpglaiaaaNckT
import Derived.Test.YtcdpkbcpglaiaaaRowMath
import Derived.Laws.EntriesVeiled
namespace Go.Proofs.Ytcdpkbcpglaiaaa
open Go.ChangeShapes Go.WideShapes Go.ChangeAt Go.RowKit Go.Deep
set_option linter.unusedVariables false
set_option linter.unusedSimpArgs false
set_option maxRecDepth 1000000
def nck0 : Nck := ⟨0, 0, 0, 0⟩
/-- neck number i is valid -/
def nckS (Z : List Nck) (i : Nat) : Bool := nckB (Z.getD i nck0)
def ncksB (Z : List Nck) : Bool := allK (nckS Z) Z.length
/-- the first error of necks and of what stands beside them -/
def nkC (Z : List Nck) (ok : Bool) : Int := if ncksB Z = true then (if ok = true then (if Z.length ≤ 64 then 0 else 2) else 2) else 1
/-- .. of one neck -/
def nk1 (b ok : Bool) : Int := if b = true then (if ok = true then 0 else 2) else 1
theorem ncks_one {Z : List Nck} (h : ncksB Z = true) {k : Nat} (hk : k < Z.length) : nckB Z[k] = true := by
  have := (allK_iff _ _).1 h k hk
  unfold nckS at this
  rwa [getD_of _ hk] at this
theorem nkC_one (x : Nck) (ok : Bool) : nkC [x] ok = nk1 (nckB x) ok := by
  unfold nkC nk1 ncksB
  have : allK (nckS [x]) [x].length = nckB x := by simp [allK, nckS]
  rw [this]
  cases nckB x <;> cases ok <;> rfl
theorem nkC_bad {Z : List Nck} (ok : Bool) (h : ncksB Z = false) : nkC Z ok = 1 := by unfold nkC; rw [h]; rfl
set_option maxHeartbeats 1600000 in
theorem codeOfNecks1_any (a : Int) (b : Int) (c : Int) (d : Int) (w : World) : Calls Try.prog 34 #[.agg #[.int .i64 a, .int .i64 b, .int .i64 c, .int .i64 d]] w fun e w' => e = .returned (.bool (!nckB ⟨a, b, c, d⟩)) ∧ Below w.heap.size w w' := by
  have cV := Lib.hid (fun W => implValidNeck_any a b c d W)
  obtain ⟨q, hq⟩ : ∃ q, q = nckB ⟨a, b, c, d⟩ := ⟨_, rfl⟩
  rw [← hq] at cV ⊢
  clear hq
  go_enter Try.func34, Try.ntmps34
  go_wp2_with (go_at_call 18; (with_reducible refine (cV.out _).mono ?_); rintro e w' ⟨rfl, hbel⟩)
  go_ret
  exact ⟨rfl, below2 ((Below.refl _ _).alloc (Nat.le_refl _) _) hbel⟩
set_option maxHeartbeats 1600000 in
theorem indexNck_any (v : Value) (Z : List Nck) (w : World) (hn : Z.length ≤ 1048576) (hv : NcksAt w v Z) :
    Calls Try.prog 42 #[v, .func (Fn.func 34) #[] #[]] w fun e w' => ∃ n : Int, e = .returned (.int .i64 n) ∧ decide (0 ≤ n) = !(ncksB Z) ∧ Below w.heap.size w w' := by
  obtain ⟨a0, cap, rfl, hcap, hids, hread⟩ := hv
  have hread' := Lib.hid hread
  clear hread hids
  go_enter Try.func42, Try.ntmps42
  go_wp2
  go_loopw [8] (fun i wr => ∃ k : Nat, k ≤ Z.length ∧ i = .int .i64 k ∧ Hid (allK (nckS Z) k = true) ∧ Hid (Below w.heap.size w wr)) (fun i _ => Z.length - (intOf i).toNat)
  case atStart => exact ⟨0, by omega, rfl, Lib.hid rfl, Lib.hid (Below.refl _ _)⟩
  case round =>
    obtain ⟨k, hk, rfl, hall, hbel⟩ := hrel
    by_cases hlt : k < Z.length
    · rcases hread'.out with h | ⟨g, o, rfl, hg, hc⟩
      · subst h; simp at hlt
      have hltI : (k : Int) < (Z.length : Int) := by omega
      obtain ⟨x, hx'⟩ : ∃ x, x = Z[k] := ⟨_, rfl⟩
      have hr0 := range_below (hc k hlt) hg hbel.out
      rw [← hx'] at hr0
      have hst : Hid (nckS Z k = nckB x) := Lib.hid (by unfold nckS; rw [getD_of _ hlt, ← hx'])
      obtain ⟨a, b, c, d⟩ := x
      have hr1 : wr.rangeAt g (o + k * 4) [.int .i64 a, .int .i64 b, .int .i64 c, .int .i64 d] := hr0
      have cT := Lib.hid (codeOfNecks1_any a b c d wr)
      clear hr0 hx' hc
      cases hcmp : nckB ⟨a, b, c, d⟩
      · rw [hcmp] at cT hst
        have hno : Hid (ncksB Z = false) := Lib.hid (allK_no hst.out hlt)
        go_wp2_with (first
          | (refine wpList_load_mid rfl _ _ rfl g (o + k * 4) rfl _ _ hr1 Try.underlying26 rfl rfl ?_)
          | (go_at_call 34; (with_reducible refine cT.out.mono ?_); rintro e w2 ⟨rfl, b2⟩))
        go_ret
        exact ⟨_, rfl, by rw [hno.out, decide_eq_true (by omega)]; rfl, below2 hbel.out b2⟩
      · rw [hcmp] at cT hst
        have hall2 : Hid (allK (nckS Z) (k + 1) = true) := Lib.hid (allK_yes hall.out hst.out)
        go_wp2_with (first
          | (refine wpList_load_mid rfl _ _ rfl g (o + k * 4) rfl _ _ hr1 Try.underlying26 rfl rfl ?_)
          | (go_at_call 34; (with_reducible refine cT.out.mono ?_); rintro e w2 ⟨rfl, b2⟩))
        go_roundw
        case rel => exact ⟨k + 1, by omega, by go_num, hall2, Lib.hid (below2 hbel.out b2)⟩
        case measure => simp [intOf]; omega
    · have hkl : k = Z.length := by omega
      have hall2 : Hid (ncksB Z = true) := Lib.hid (by have h9 := hall.out; rw [hkl] at h9; exact h9)
      clear hkl
      go_wp2
      go_ret
      exact ⟨_, rfl, by rw [hall2.out]; rfl, hbel.out⟩
theorem containsNck_any (v : Value) (Z : List Nck) (w : World) (hn : Z.length ≤ 1048576) (hv : NcksAt w v Z) :
    Calls Try.prog 35 #[v, .func (Fn.func 34) #[] #[]] w fun e w' => e = .returned (.bool (!(ncksB Z))) ∧ Below w.heap.size w w' := by
  have cI := Lib.hid (indexNck_any v Z w hn hv)
  obtain ⟨a0, cap, rfl, hcap, hids, hread⟩ := hv
  clear hread hids
  go_enter Try.func35, Try.ntmps35
  go_wp2_with (go_at_call 42; (with_reducible refine cI.out.mono ?_); rintro e w2 ⟨n, rfl, hd, b2⟩)
  go_ret
  exact ⟨ret_bool (by first | rfl | exact hd), b2⟩
set_option maxHeartbeats 1600000 in
theorem codeOfNecks_any (ok : Bool) (v : Value) (Z : List Nck) (w : World) (hn : Z.length ≤ 1048576) (hv : NcksAt w v Z) : Calls Try.prog 19 #[.bool ok, v] w fun e w' => e = .returned (.int .i64 (nkC Z ok)) ∧ Below w.heap.size w w' := by
  have cC := Lib.hid (containsNck_any v Z w hn hv)
  have hx : Hid (nkC Z ok = if ncksB Z = true then (if ok = true then (if Z.length ≤ 64 then 0 else 2) else 2) else 1) := Lib.hid rfl
  obtain ⟨a0, cap, rfl, hcap, hids, hread⟩ := hv
  obtain ⟨q, hq⟩ : ∃ q, q = ncksB Z := ⟨_, rfl⟩
  rw [← hq] at cC hx
  clear hread hids hq
  cases q
  · go_enter Try.func19, Try.ntmps19
    go_wp2_with (go_at_call 35; (with_reducible refine cC.out.mono ?_); rintro e w2 ⟨rfl, b2⟩)
    go_ret
    exact ⟨ret_int (by rw [hx.out]; rfl), b2⟩
  · cases ok
    · go_enter Try.func19, Try.ntmps19
      go_wp2_with (go_at_call 35; (with_reducible refine cC.out.mono ?_); rintro e w2 ⟨rfl, b2⟩)
      go_ret
      exact ⟨ret_int (by rw [hx.out]; rfl), b2⟩
    · by_cases h64 : Z.length ≤ 64
      · have h4I : ¬ (64 : Int) < (Z.length : Int) := by omega
        go_enter Try.func19, Try.ntmps19
        go_wp2_with (go_at_call 35; (with_reducible refine cC.out.mono ?_); rintro e w2 ⟨rfl, b2⟩)
        go_ret
        exact ⟨ret_int (by rw [hx.out]; simp [h64]), b2⟩
      · have h4I : (64 : Int) < (Z.length : Int) := by omega
        go_enter Try.func19, Try.ntmps19
        go_wp2_with (go_at_call 35; (with_reducible refine cC.out.mono ?_); rintro e w2 ⟨rfl, b2⟩)
        go_ret
        exact ⟨ret_int (by rw [hx.out]; simp [h64]), b2⟩
theorem ncks_single (a : Int) (b : Int) (c : Int) (d : Int) (W : World) : NcksAt (W.alloc (.cells #[.int .i64 a, .int .i64 b, .int .i64 c, .int .i64 d] 26)) (.slice (some ⟨W.heap.size, 0, none⟩) 1 1) [⟨a, b, c, d⟩] :=
  ⟨some ⟨W.heap.size, 0, none⟩, 1, rfl, Nat.le_refl _, fun _ _ => trivial, Or.inr ⟨W.heap.size, 0, rfl, by simp, fun i hi => by
    obtain rfl : i = 0 := by simpa using hi
    intro j v hv
    have e : (#[.int .i64 a, .int .i64 b, .int .i64 c, .int .i64 d] : Array Value)[j]? = some v := by simpa [Nck.cells] using hv
    have := cellB (heap_alloc_new W (.cells #[.int .i64 a, .int .i64 b, .int .i64 c, .int .i64 d] 26)) j v e
    simpa using this⟩⟩
/-- the code of one neck, behind the row that holds it -/
theorem codeOf1_any (a : Int) (b : Int) (c : Int) (d : Int) (ok : Bool) (W : World) : Calls Try.prog 19 #[.bool ok, .slice (some ⟨W.heap.size, 0, none⟩) 1 1] (W.alloc (.cells #[.int .i64 a, .int .i64 b, .int .i64 c, .int .i64 d] 26)) fun e w' => e = .returned (.int .i64 (nk1 (nckB ⟨a, b, c, d⟩) ok)) ∧ Below (W.alloc (.cells #[.int .i64 a, .int .i64 b, .int .i64 c, .int .i64 d] 26)).heap.size (W.alloc (.cells #[.int .i64 a, .int .i64 b, .int .i64 c, .int .i64 d] 26)) w' := by
  have := codeOfNecks_any ok _ [⟨a, b, c, d⟩] _ (by simp) (ncks_single a b c d W)
  rwa [nkC_one] at this
end Go.Proofs.Ytcdpkbcpglaiaaa
