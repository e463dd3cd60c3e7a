/-
  The least place that says yes, and the program's leastFrom: a closure that leaves what lay as it lay.
-/
import Derived.Test.YtmppaimcejcoiaaSearch
import Derived.Test.YtmppaimcejcoiaaUnits
import Derived.Laws.EntriesVeiled
import Derived.Shelf.RegionOpenPlain
namespace Go.Proofs.Ytmppaimcejcoiaa
open Go.ChangeShapes Go.WideShapes Go.ChangeAt Go.RowKit Go.Deep
set_option linter.unusedVariables false
set_option linter.unusedSimpArgs false
set_option maxRecDepth 1000000
/-- the least place below n that says yes, n if there is none -/
def lstN (p : Nat → Bool) (n : Nat) : Nat := ((List.range n).find? p).getD n
theorem least_lst {p : Nat → Bool} {n r : Nat} (h : Least p n r) : lstN p n = r := by
  unfold lstN
  rcases Nat.lt_or_ge r n with hr | hr
  · have : (List.range n).find? p = some r := by
      rw [List.find?_range_eq_some]; exact ⟨h.2.2 r (Nat.le_refl _) hr, List.mem_range.2 hr, fun j hj => by rw [h.2.1 j hj]; rfl⟩
    rw [this]; rfl
  · have hrn : r = n := Nat.le_antisymm h.1 hr
    have : (List.range n).find? p = none := by
      rw [List.find?_range_eq_none]; intro j hj; rw [h.2.1 j (by omega)]; rfl
    rw [this, hrn]; rfl
/-- a least number from lo on: what is handed back, and its code -/
def lfV (lo : Int) (r n : Nat) : Int := if r = n then 0 else lo + r
def lfC (r n : Nat) : Int := if r = n then 3 else 0
theorem lf_no {lo : Int} {r n : Nat} (h : r = n) : (0 : Int) = lfV lo r n ∧ (3 : Int) = lfC r n := by unfold lfV lfC; rw [if_pos h, if_pos h]; exact ⟨rfl, rfl⟩
theorem lf_yes {lo : Int} {r n : Nat} (h : r ≠ n) : lo + r = lfV lo r n ∧ (0 : Int) = lfC r n := by unfold lfV lfC; rw [if_neg h, if_neg h]; exact ⟨rfl, rfl⟩
/-- the first place found by going up -/
theorem lst_at {p : Nat → Bool} {n k : Nat} (hk : k < n) (hno : ∀ j, j < k → p j = false) (hy : p k = true) (hm : ∀ i j, i ≤ j → p i = true → p j = true) : lstN p n = k :=
  least_lst ⟨by omega, hno, fun t h1 _ => hm k t h1 hy⟩
theorem lst_none {p : Nat → Bool} {n : Nat} (hno : ∀ j, j < n → p j = false) : lstN p n = n := least_lst ⟨Nat.le_refl _, hno, fun t h1 h2 => by omega⟩
set_option maxHeartbeats 1600000 in
theorem leastFrom1_any (g : Nat) (cb : Array Value) (lo : Int) (i : Nat) (q : Bool) (bx bz : Nat) (wr : World) (eg : ∀ args w, (callFunc g args).run Try.prog w = .ok (.enter g args) w) (h0 : -1000000 ≤ lo) (h1 : lo ≤ 1000000) (hi : i < 10000000)
    (hlo : wr.cell? ⟨bx, 0, none⟩ = some (.int .i64 lo)) (hfn : wr.cell? ⟨bz, 0, none⟩ = some (.func (.func g) #[] cb))
    (hf : Calls Try.prog g (#[.int .i64 (lo + i)] ++ cb) wr fun e w' => e = .returned (.bool q) ∧ Below wr.heap.size wr w') :
    Calls Try.prog 48 #[.int .i64 i, .pointer (some ⟨bz, 0, none⟩), .pointer (some ⟨bx, 0, none⟩)] wr fun e w' => e = .returned (.bool q) ∧ Below wr.heap.size wr w' := by
  have e1 : IntKind.i64.wrap (lo + (i : Int)) = lo + (i : Int) := IntWalk.i64_in _ (by omega)
  have hf' := Lib.hid hf
  clear hf
  go_enter Try.func48, Try.ntmps48
  go_wp2_with (go_at_fn g; refine hf'.out.mono ?_; rintro e w' ⟨rfl, b1⟩)
  go_ret
  exact ⟨rfl, b1⟩
set_option maxHeartbeats 3200000 in
theorem leastFrom_any (g : Nat) (cb : Array Value) (lo hi : Int) (n : Nat) (p : Nat → Bool) (w : World) (eg : ∀ args w, (callFunc g args).run Try.prog w = .ok (.enter g args) w) (h0 : -1000000 ≤ lo) (h1 : lo ≤ hi) (h2 : hi ≤ 1000000) (hn : (n : Int) = hi - lo + 1)
    (hf : ∀ (W : World) (i : Nat), Below w.heap.size w W → i < n → Calls Try.prog g (#[.int .i64 (lo + i)] ++ cb) W fun e w' => e = .returned (.bool (p i)) ∧ Below W.heap.size W w')
    (hmono : ∀ a b, a ≤ b → b < n → p a = true → p b = true) :
    Calls Try.prog 32 #[.int .i64 lo, .int .i64 hi, .func (.func g) #[] cb] w fun e w' => e = .returned (.tuple #[.int .i64 (lfV lo (lstN p n) n), .int .i64 (lfC (lstN p n) n)]) ∧ Below w.heap.size w w' := by
  have hB0 : Below w.heap.size w ((w.alloc (.cells #[.int .i64 lo] 2)).alloc (.cells #[.func (.func g) #[] cb] 40)) := ((Below.refl _ _).alloc (Nat.le_refl _) _).alloc (by simp) _
  have x1 : ((w.alloc (.cells #[.int .i64 lo] 2)).alloc (.cells #[.func (.func g) #[] cb] 40)).cell? ⟨w.heap.size, 0, none⟩ = some (.int .i64 lo) := ((Below.refl (w.alloc (.cells #[.int .i64 lo] 2)).heap.size (w.alloc (.cells #[.int .i64 lo] 2))).alloc (Nat.le_refl _) _ |>.cell (p := ⟨w.heap.size, 0, none⟩) (by simp)).trans (cellB (heap_alloc_new w _) 0 _ rfl)
  have x2 : ((w.alloc (.cells #[.int .i64 lo] 2)).alloc (.cells #[.func (.func g) #[] cb] 40)).cell? ⟨w.heap.size + 1, 0, none⟩ = some (.func (.func g) #[] cb) := cellB (by rw [show w.heap.size + 1 = (w.alloc (.cells #[.int .i64 lo] 2)).heap.size by simp]; exact heap_alloc_new _ _) 0 _ rfl
  have hsz : ((w.alloc (.cells #[.int .i64 lo] 2)).alloc (.cells #[.func (.func g) #[] cb] 40)).heap.size = w.heap.size + 2 := by simp
  have e1 : IntKind.i64.wrap (hi - lo) = hi - lo := IntWalk.i64_in _ (by omega)
  have e2 : IntKind.i64.wrap (hi - lo + 1) = hi - lo + 1 := IntWalk.i64_in _ (by omega)
  go_enter Try.func32, Try.ntmps32
  go_wp2_with fail
  rw [← hn]
  generalize ((w.alloc (.cells #[.int .i64 lo] 2)).alloc (.cells #[.func (.func g) #[] cb] 40)) = W at hB0 x1 x2 hsz ⊢
  refine (search_any 48 #[.pointer (some ⟨w.heap.size + 1, 0, none⟩), .pointer (some ⟨w.heap.size, 0, none⟩)] n p W (enters_of Try.func48 (by kernel_rfl) rfl) (by omega) (fun W' i hW hi' => by
      exact leastFrom1_any g cb lo i (p i) w.heap.size (w.heap.size + 1) W' eg h0 (by omega) (by omega) ((hW.cell (p := ⟨w.heap.size, 0, none⟩) (show w.heap.size < _ by omega)).trans x1) ((hW.cell (p := ⟨w.heap.size + 1, 0, none⟩) (show w.heap.size + 1 < _ by omega)).trans x2) (hf W' i (hB0.trans (hW.mono hB0.size)) hi')) hmono).mono ?_
  rintro e w2 ⟨r, rfl, hL, b2⟩
  have B2 := below2 hB0 b2
  have x3 := (b2.cell (p := ⟨w.heap.size, 0, none⟩) (show w.heap.size < _ by omega)).trans x1
  have hrn := hL.1
  have hrr := Lib.hid (least_lst hL)
  clear x1 x2 hB0 hsz hL b2 hf hmono
  have e3 : IntKind.i64.wrap (lo + (r : Int)) = lo + (r : Int) := IntWalk.i64_in _ (by omega)
  by_cases hr : r = n
  · have hgt : hi < lo + (r : Int) := by omega
    have hv := Lib.hid (lf_no (lo := lo) hr)
    go_wp2
    go_ret2
    exact ⟨ret_int2 (by rw [hrr.out]; exact hv.out.1) (by rw [hrr.out]; exact hv.out.2), B2⟩
  · have hle : lo + (r : Int) ≤ hi := by omega
    have hv := Lib.hid (lf_yes (lo := lo) hr)
    go_wp2
    go_ret2
    exact ⟨ret_int2 (by rw [hrr.out]; exact hv.out.1) (by rw [hrr.out]; exact hv.out.2), B2⟩
end Go.Proofs.Ytmppaimcejcoiaa
