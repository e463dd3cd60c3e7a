/-
  A coat that is handed back: marked and held; what both readers hand back, in one form.
-/
import Derived.Test.YtcgmpomhklhmaaaDoorCtS
import Derived.Test.YtcgmpomhklhmaaaDoorRowE
namespace Go.Proofs.YtcgmpomhklhmaaaDoor
open Go.ChangeShapes Go.WideShapes Go.ChangeAt Go.RowKit Go.Deep
set_option linter.unusedVariables false
set_option linter.unusedSimpArgs false
set_option maxRecDepth 1000000
theorem markCoat_any (s : ByteArray) (a b : Int) (u : Value) (L : List Int) (k0 B : Nat) (w : World) (hn : L.length ≤ 1048576) (hk0 : 0 < k0) (hk1 : k0 ≤ 1000000) (ho : w.ownsRow B 2 1 u L.length (L.map encI)) : Calls Tryd.prog 12 #[.agg #[.string s, .int .i64 a, .int .i64 b, u], .int .i64 k0] w fun e w' => e = .returned (.int .i64 ((k0 + L.length : Nat) : Int)) ∧ w'.ownsRow B 2 1 u L.length (((List.range L.length).map fun i => ((k0 + i : Nat) : Int)).map encI) ∧ w.grownBy w' u.ownBlock := by
  obtain ⟨q9, hB0, hsz⟩ := one_boxC w #[.string s, .int .i64 a, .int .i64 b, u] 27
  have x3 := q9 3 _ rfl
  have hg0 : w.grownBy (w.alloc (.cells #[.string s, .int .i64 a, .int .i64 b, u] 27)) u.ownBlock := World.grownBy_alloc _ _ _
  have cM := markInt64S_row u k0 B L (w.alloc (.cells #[.string s, .int .i64 a, .int .i64 b, u] 27)) (by omega) hk0 (by omega) (own_kept8 ho hB0)
  obtain ⟨W0, hW0⟩ : ∃ W0, W0 = w.alloc (.cells #[.string s, .int .i64 a, .int .i64 b, u] 27) := ⟨_, rfl⟩
  rw [← hW0] at x3 cM hg0
  obtain ⟨m, hm⟩ : ∃ m : Nat, m = k0 + L.length := ⟨_, rfl⟩
  rw [← hm] at cM ⊢
  replace cM := Lib.hid cM
  have hg0' := Lib.hid hg0
  clear q9 hB0 hsz ho hg0 hm
  go_enter Tryd.func12, Tryd.ntmps12
  go_upto_region 1 with fail
  rw [← hW0]
  clear hW0
  go_wp2_with (go_at_call 27; (with_reducible refine cM.out.mono ?_); rintro e w2 ⟨rfl, o2, g2⟩)
  go_ret
  exact ⟨rfl, o2, gtrans hg0'.out g2⟩
theorem heldCoat_any (s : ByteArray) (a b : Int) (u : Value) (n k0 B : Nat) (w : World) (hn : n ≤ 1048576) (hk0 : 0 < k0) (hk1 : k0 ≤ 1000000) (ho : w.ownsRow B 2 1 u n (((List.range n).map fun i => ((k0 + i : Nat) : Int)).map encI)) : Calls Tryd.prog 13 #[.agg #[.string s, .int .i64 a, .int .i64 b, u], .int .i64 k0] w fun e w' => e = .returned (.int .i64 ((k0 + n : Nat) : Int)) ∧ Below w.heap.size w w' := by
  obtain ⟨q9, hB0, hsz⟩ := one_boxC w #[.string s, .int .i64 a, .int .i64 b, u] 27
  have x3 := q9 3 _ rfl
  have cM := heldInt64S_row u n k0 B (w.alloc (.cells #[.string s, .int .i64 a, .int .i64 b, u] 27)) (by omega) hk0 (by omega) (own_kept8 ho hB0)
  obtain ⟨W0, hW0⟩ : ∃ W0, W0 = w.alloc (.cells #[.string s, .int .i64 a, .int .i64 b, u] 27) := ⟨_, rfl⟩
  rw [← hW0] at x3 cM hB0
  obtain ⟨m, hm⟩ : ∃ m : Nat, m = k0 + n := ⟨_, rfl⟩
  rw [← hm] at cM ⊢
  have hm9 : ¬ ((m : Int) < 0) := by omega
  replace cM := Lib.hid cM
  have hB' := Lib.hid hB0
  clear q9 hB0 hsz ho hm
  go_enter Tryd.func13, Tryd.ntmps13
  go_upto_region 1 with fail
  rw [← hW0]
  clear hW0
  go_wp2_with (go_at_call 28; (with_reducible refine cM.out.mono ?_); rintro e w2 ⟨rfl, q, rfl⟩)
  go_ret
  exact ⟨rfl, belowN hB'.out q⟩
/-- what a reader hands back, in one form -/
def CtGive (S : ByteArray) (D V : Int) (L : List Int) (ok : Bool) (w : World) (e : Ending) (w' : World) : Prop :=
  ∃ a c, e = .returned (.tuple #[.agg #[.string S, .int .i64 D, .int .i64 V, .slice a L.length c], .bool ok]) ∧ w'.ownsRow w.heap.size 2 1 (.slice a L.length c) L.length (L.map encI) ∧ Below w.heap.size w w'
theorem ctGive_of (l : List UInt8) : ∃ S D V L ok, ((∀ n ∈ L, inI n) ∧ L.length ≤ 1048576) ∧ ∀ w e w', CtRet (ctO l) w e w' → CtGive S D V L ok w e w' := by
  cases h : ctO l with
  | none =>
    refine ⟨⟨#[]⟩, 0, 0, [], false, ⟨fun n hn => (by cases hn), by simp⟩, fun w e w' hr => ?_⟩
    obtain ⟨rfl, hb⟩ := hr
    exact ⟨none, 0, rfl, World.ownsRow_nil _ _ _ _, hb⟩
  | some x =>
    have hv : ctB x = true := by
      unfold ctO at h
      split at h
      · unfold ctOf at h
        split at h
        · split at h
          · cases h; assumption
          · cases h
        · cases h
      · cases h
    have hc := (ct_bd (s := x.id) (a := x.days) (b := x.cover) (L := x.col) hv).2.2
    obtain ⟨p, q, r, e9, hp, hq, hr⟩ := colB_iff hc
    refine ⟨x.id, x.days, x.cover, x.col, true, ⟨?_, by rw [e9]; simp⟩, fun w e w' hr => ?_⟩
    · intro n hn
      rw [e9] at hn
      simp at hn
      unfold inI
      rcases hn with rfl | rfl | rfl <;> omega
    · obtain ⟨u, rfl, ho, hb⟩ := hr
      obtain ⟨a, c, rfl⟩ := ownShape ho
      exact ⟨a, c, rfl, ho, hb⟩
theorem range_grown {w w' : World} {b o : Nat} {cs : List Value} {row : Option Nat} (h : w.rangeAt b o cs) (hb : b < w.heap.size) (hg : w.grownBy w' row) (hne : some b ≠ row) : w'.rangeAt b o cs :=
  fun j v hv => (World.cell?_of_block (w := w) (hg.block b hb hne)).trans (h j v hv)
end Go.Proofs.YtcgmpomhklhmaaaDoor
