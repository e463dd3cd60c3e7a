/-
  A map from 0, 1, .. to numbers, as a list; strips behind a pointer: what is used of them, and what each rib got.
-/
import Derived.Test.YtgbjdjkmmmgnnaaRibLen
import Derived.Test.YtgbjdjkmmmgnnaaRowC
import Derived.Test.YtgbjdjkmmmgnnaaRowMath
import Derived.Test.YtgbjdjkmmmgnnaaRibsM
import Derived.Maps.OwnSet
import Derived.StillTailTactics
import Derived.Laws.EntriesVeiled
namespace Go.Proofs.Ytgbjdjkmmmgnnaa
open Go.ChangeShapes Go.WideShapes Go.ChangeAt Go.RowKit Go.Deep
set_option linter.unusedVariables false
set_option linter.unusedSimpArgs false
set_option maxRecDepth 1000000
theorem lawK : Maps.Keyed Try.prog 2 := Maps.int_keyed Try.underlying2
theorem zeroK (w : World) : (zeroValue 2).run Try.prog w = .ok (.int .i64 0) w := by kernel_rfl
def kI (k : Nat) : Lit := .int .i64 (k : Int)
def dI (n : Int) : DataW Unit := .lit (.int .i64 n)
theorem kI_wf {k : Nat} (h : k ≤ 1000000) : (Lit.int .i64 (k : Int)).wf = true := WalkArith.wf_i64 (by omega)
theorem kI_key {k : Nat} (h : k ≤ 1000000) : keyOf Try.prog 2 (.int .i64 (k : Int)) = some (kI k) := Maps.keyOf_int_mk Try.underlying2 (kI_wf h)
theorem kI_is {k : Nat} : WideAt.IsKeyLit (kI k) := by unfold kI; trivial
theorem kI_ne {a b : Nat} (h : a ≠ b) : kI a ≠ kI b := fun e => h (by unfold kI at e; injection e with _ e; omega)
/-- the map has the places 0, 1, .. of a list, and what stands there -/
def MapU (D : DataW Unit) (U : List Int) : Prop := (∀ k : Nat, Maps.has D (kI k) = decide (k < U.length)) ∧ (∀ (k : Nat) (h : k < U.length) (z : DataW Unit), D.atKey (kI k) z = dI U[k]) ∧ Maps.size D = U.length
def MapOf (w : World) (m : Nat) (U : List Int) : Prop := ∃ D : DataW Unit, w.ownsMap Try.prog 2 (plainElem Try.prog 2) m U.length D ∧ MapU D U
theorem own_tight {w : World} {m n : Nat} {D : DataW Unit} (h : w.ownsMap Try.prog 2 (plainElem Try.prog 2) m n D) : w.ownsMap Try.prog 2 (plainElem Try.prog 2) m (Maps.size D) D := by
  obtain ⟨es, clock, hb, F, hs, hD⟩ := h
  refine ⟨es, clock, hb, F, ?_, hD⟩
  rw [hD]; simp [Maps.size, length_sorted]
theorem mapOf_start (w : World) : MapOf (w.alloc (.map #[] 0)) w.heap.size [] := by
  refine ⟨.map [], World.ownsMap_made _ _ _ _, fun k => ?_, fun k h => absurd h (Nat.not_lt_zero k), rfl⟩
  simp [Maps.has]
theorem MapOf.kept {w w' : World} {m : Nat} {U : List Int} {row : Option Nat} (h : MapOf w m U) (hg : w.grownBy w' row) (hne : some m ≠ row) : MapOf w' m U := by
  obtain ⟨D, h1, h2⟩ := h
  exact ⟨D, h1.kept hg hne, h2⟩
theorem MapOf.lt {w : World} {m : Nat} {U : List Int} (h : MapOf w m U) : m < w.heap.size := by
  obtain ⟨D, h1, _⟩ := h
  exact h1.lt
theorem MapOf.block {w : World} {m : Nat} {U : List Int} (h : MapOf w m U) : ∃ es c, w.heap[m]? = some (.map es c) := by
  obtain ⟨D, ⟨es, c, hb, _⟩, _⟩ := h
  exact ⟨es, c, hb⟩
theorem MapOf.look {w : World} {m : Nat} {U : List Int} (h : MapOf w m U) {k : Nat} (hk : k ≤ 1000000) : (Instr.lookup 66 (.map (some m)) (.int .i64 (k : Int)) true).run Try.prog w = .ok (.tuple #[.int .i64 (U.getD k 0), .bool (decide (k < U.length))]) w := by
  obtain ⟨D, h1, h2, h3, _⟩ := h
  obtain ⟨v, ps, hrun, hv⟩ := h1.look_ok lawK Try.underlying66 (zeroK w) (plainElem_int Try.underlying2 (by decide)) (kI_key hk)
  rw [hrun, h2 k]
  by_cases hl : k < U.length
  · rw [h3 k hl] at hv
    obtain ⟨c, rfl, hc, _⟩ := plainElem_int_inv Try.underlying2 hv
    simp only [dI, Prod.mk.injEq, DataW.lit.injEq, Lit.int.injEq, true_and] at hc
    rw [List.getD_eq_getElem?_getD, List.getElem?_eq_getElem hl, hc.1]; rfl
  · have hno : Maps.has D (kI k) = false := by rw [h2 k, decide_eq_false hl]
    rw [Maps.atKey_of_not_has hno] at hv
    obtain ⟨c, rfl, hc, _⟩ := plainElem_int_inv Try.underlying2 hv
    simp only [Prod.mk.injEq, DataW.lit.injEq, Lit.int.injEq, true_and] at hc
    rw [List.getD_eq_getElem?_getD, List.getElem?_eq_none (by omega), ← hc.1]; rfl
theorem MapOf.lookV {w : World} {m : Nat} {U : List Int} (h : MapOf w m U) {k : Nat} (hk : k ≤ 1000000) : (Instr.lookup 66 (.map (some m)) (.int .i64 (k : Int)) false).run Try.prog w = .ok (.int .i64 (U.getD k 0)) w := by
  obtain ⟨D, h1, h2, h3, _⟩ := h
  obtain ⟨c, hrun, hat, _⟩ := h1.lookup_int lawK Try.underlying66 Try.underlying2 (zeroK w) (kI_key hk)
  rw [hrun]
  by_cases hl : k < U.length
  · rw [h3 k hl] at hat
    simp only [dI, DataW.lit.injEq, Lit.int.injEq, true_and] at hat
    rw [List.getD_eq_getElem?_getD, List.getElem?_eq_getElem hl, ← hat]; rfl
  · have hno : Maps.has D (kI k) = false := by rw [h2 k, decide_eq_false hl]
    rw [Maps.atKey_of_not_has hno] at hat
    simp only [DataW.lit.injEq, Lit.int.injEq, true_and] at hat
    rw [List.getD_eq_getElem?_getD, List.getElem?_eq_none (by omega), ← hat]; rfl
theorem MapOf.len {w : World} {m : Nat} {U : List Int} (h : MapOf w m U) (ty : TypeId) : (Builtin.len_ #[66] ty #[.map (some m)]).run Try.prog w = .ok (.int .i64 (U.length : Int)) w := by
  obtain ⟨D, h1, _, _, h4⟩ := h
  rw [h1.len Try.underlying66 ty, h4]
/-- a place is written: one that is there, or the next one -/
def putU (U : List Int) (k : Nat) (v : Int) : List Int := if k < U.length then U.set k v else U ++ [v]
theorem putU_len (U : List Int) (k : Nat) (v : Int) : (putU U k v).length = if k < U.length then U.length else U.length + 1 := by unfold putU; split <;> simp
theorem mapU_put {w : World} {m n : Nat} {D : DataW Unit} {U : List Int} (hown : w.ownsMap Try.prog 2 (plainElem Try.prog 2) m n D) (h : MapU D U) (k : Nat) (hk : k ≤ U.length) (v : Int) : MapU (D.put (kI k) (dI v)) (putU U k v) := by
  obtain ⟨h2, h3, h4⟩ := h
  have hm := hown.isMap
  refine ⟨fun j => ?_, fun j hj z => ?_, ?_⟩
  · by_cases e : j = k
    · subst e
      rw [Maps.has_put_same hm kI_is, putU_len]
      symm; rw [decide_eq_true_eq]; split <;> omega
    · rw [Maps.has_put_other (kI_ne e), h2 j, putU_len]
      by_cases hl : k < U.length
      · rw [if_pos hl]
      · rw [if_neg hl]
        rw [decide_eq_decide]; omega
  · by_cases e : j = k
    · subst e
      rw [Maps.atKey_put_same hm kI_is]
      unfold putU
      split
      · rw [List.getElem_set_self]
      · rw [List.getElem_append_right (by omega)]; simp
    · rw [Maps.atKey_put_other (kI_ne e)]
      have hj2 : j < U.length := by rw [putU_len] at hj; split at hj <;> omega
      rw [h3 j hj2]
      unfold putU
      split
      · rw [List.getElem_set_ne (by omega)]
      · rw [List.getElem_append_left hj2]
  · rw [Maps.size_put (hown.tidy lawK), h2 k, h4, putU_len]
    by_cases hl : k < U.length
    · rw [if_pos hl, if_pos (by rw [decide_eq_true hl])]
    · rw [if_neg hl, if_neg (by rw [decide_eq_false hl]; decide)]
/-- the last place is struck -/
theorem mapU_del {w : World} {m n : Nat} {D : DataW Unit} {U : List Int} (hown : w.ownsMap Try.prog 2 (plainElem Try.prog 2) m n D) (h : MapU D U) (hU : U ≠ []) : MapU (D.del (kI (U.length - 1))) U.dropLast := by
  obtain ⟨h2, h3, h4⟩ := h
  have hpos : 0 < U.length := List.length_pos_iff.2 hU
  have hl : U.dropLast.length = U.length - 1 := List.length_dropLast
  refine ⟨fun j => ?_, fun j hj z => ?_, ?_⟩
  · by_cases e : j = U.length - 1
    · rw [e, Maps.has_del_same, hl]
      symm; rw [decide_eq_false_iff_not]; omega
    · rw [Maps.has_del_other (kI_ne e), h2 j, hl, decide_eq_decide]; omega
  · rw [hl] at hj
    rw [Maps.atKey_del_other (kI_ne (by omega)), h3 j (by omega), List.getElem_dropLast]
  · have h5 := Maps.size_del (hown.tidy lawK) (k := kI (U.length - 1))
    rw [h2, decide_eq_true (by omega), if_pos rfl, h4] at h5
    omega
/-- strips behind a pointer: their length and the saw's, what is left of each that is used (U), the strips that were given (G) -/
def StripAt (B : Nat) (w : World) (p m : Nat) (L W : Int) (U G : List Int) : Prop := B ≤ p ∧ B ≤ m ∧ (∃ gv, w.heap[p]? = some (.cells #[.int .i64 L, .int .i64 W, .map (some m), gv] 68 (0, 0)) ∧ w.ownsRow B 2 1 gv G.length (G.map encI)) ∧ MapOf w m U
theorem StripAt.lt {B p m : Nat} {w : World} {L W : Int} {U G : List Int} (h : StripAt B w p m L W U G) : p < w.heap.size := by
  obtain ⟨_, _, ⟨gv, h1, _⟩, _⟩ := h
  exact (Array.getElem?_eq_some_iff.1 h1).1
theorem StripAt.below {B p m : Nat} {w w' : World} {L W : Int} {U G : List Int} (h : StripAt B w p m L W U G) (hb : Below w.heap.size w w') : StripAt B w' p m L W U G := by
  have hlt := h.lt
  obtain ⟨hp, hm, ⟨gv, h1, h2⟩, h3⟩ := h
  exact ⟨hp, hm, ⟨gv, (hb.block p hlt).trans h1, own_kept h2 hb⟩, h3.kept (below_grown' hb none) (by simp)⟩
theorem own_block {w : World} {B : Nat} {v : Value} {n : Nat} {xs : List Value} (h : w.ownsRow B 2 1 v n xs) {g : Nat} (hg : v.ownBlock = some g) : ∃ cur, w.heap[g]? = some (.cells cur 2 (0, 0)) := by
  rcases h.2 with ⟨rfl, _⟩ | ⟨g', cap, cur, rfl, _, hh, _⟩
  · simp [Value.ownBlock] at hg
  · have e : g' = g := by simpa [Value.ownBlock] using hg
    exact ⟨cur, e ▸ hh⟩
theorem own_form {w : World} {B n : Nat} {v : Value} {xs : List Value} (h : w.ownsRow B 2 1 v n xs) : ∃ a cap, v = .slice a n cap := by
  rcases h.2 with ⟨h1, h2⟩ | ⟨g, cap, cur, hv, _⟩
  · exact ⟨none, 0, by rw [h1, h2]⟩
  · exact ⟨_, cap, hv⟩
theorem heap_setS {w : World} {b : Nat} {cs : Array Value} {t : TypeId} (h : w.heap[b]? = some (.cells cs t (0, 0))) (i : Nat) (v : Value) (cs' : Array Value) (hc : cs.setIfInBounds i v = cs') : (w.setCell ⟨b, i, none⟩ v).heap[b]? = some (.cells cs' t (0, 0)) := by
  obtain ⟨hlt, hk⟩ := Array.getElem?_eq_some_iff.1 h
  show (w.heap.modify b _)[b]? = _
  rw [Array.getElem?_eq_getElem (by rw [Array.size_modify]; exact hlt), Array.getElem_modify_self, hk, ← hc]
  simp [Array.setIfInBounds]
/-- what would be left of strip k: of one that is used, behind the saw -/
def leftK (L W : Int) (U : List Int) (k : Nat) : Int := if k < U.length then U.getD k 0 - W else L
def fitsK (L W : Int) (U : List Int) (k : Nat) (a : Int) : Bool := decide (a ≤ leftK L W U k)
def cutU (L W : Int) (U : List Int) (k : Nat) (a : Int) : List Int := putU U k (leftK L W U k - a)
def inU (U : List Int) : Prop := ∀ u ∈ U, -1000000 ≤ u ∧ u ≤ 1000000
theorem getU {U : List Int} (h : inU U) (k : Nat) : -1000000 ≤ U.getD k 0 ∧ U.getD k 0 ≤ 1000000 := by
  rw [List.getD_eq_getElem?_getD]
  by_cases hk : k < U.length
  · rw [List.getElem?_eq_getElem hk]; exact h _ (List.getElem_mem hk)
  · rw [List.getElem?_eq_none (by omega)]; decide
def CutRet (B p m : Nat) (L W : Int) (U G : List Int) (k : Nat) (a : Int) (w : World) (e : Ending) (w' : World) : Prop := e = .returned (.bool (fitsK L W U k a)) ∧ StripAt B w' p m L W (if fitsK L W U k a = true then cutU L W U k a else U) (if fitsK L W U k a = true then G ++ [(k : Int)] else G) ∧ Below B w w' ∧ (fitsK L W U k a = false → Below w.heap.size w w')
set_option maxHeartbeats 3200000 in
theorem cut_any (B p m : Nat) (L W : Int) (U G : List Int) (k : Nat) (s : ByteArray) (a b : Int) (w : World) (hL : 1 ≤ L ∧ L ≤ 100000) (hW : 0 ≤ W ∧ W ≤ 100) (hU : inU U) (ha : 1 ≤ a ∧ a ≤ 10000) (hk : k ≤ U.length) (hlU : U.length ≤ 1000) (hlG : G.length ≤ 1000) (hB : B ≤ w.heap.size) (h0 : StripAt B w p m L W U G) :
    Calls Try.prog 53 #[.pointer (some ⟨p, 0, none⟩), .int .i64 k, .agg #[.string s, .int .i64 a, .int .i64 b]] w (CutRet B p m L W U G k a w) := by
  obtain ⟨i0, hi, hz0, hz1, hz2⟩ := info_parts infoI
  have hb0 : Below w.heap.size w (w.alloc (.cells #[.string s, .int .i64 a, .int .i64 b] 50)) := (Below.refl _ _).alloc (Nat.le_refl _) _
  have hbB := Lib.hid (hb0.mono hB)
  have hlt := h0.lt
  obtain ⟨hp, hm, ⟨gv, h1, h2⟩, h3⟩ := h0.below hb0
  have k0 := cellB h1 0 _ rfl
  have k1 := cellB h1 1 _ rfl
  have k2 := cellB h1 2 _ rfl
  have k3 := cellB h1 3 _ rfl
  have r3 := freeB h1 3
  have hgU := getU hU k
  have hlook := h3.look (k := k) (by omega)
  obtain ⟨x, hx⟩ : ∃ x, x = U.getD k 0 := ⟨_, rfl⟩
  have q1 := heap_alloc_new w (.cells #[.string s, .int .i64 a, .int .i64 b] 50)
  have y1 := cellB q1 1 _ rfl
  have hne : w.heap.size ≠ p := by omega
  have hmm := h3.lt
  have hpm : p ≠ m := fun e => by
    obtain ⟨es, c, hb⟩ := h3.block
    rw [← e, h1] at hb; cases hb
  have hgw : gv.ownBlock ≠ some w.heap.size := fun e => by
    obtain ⟨cur, hc⟩ := own_block h2 e
    rw [q1] at hc; injection hc with hc; injection hc with _ hc; exact absurd hc (by decide)
  have hgp : gv.ownBlock ≠ some p := fun e => by
    obtain ⟨cur, hc⟩ := own_block h2 e
    rw [h1] at hc; injection hc with hc; injection hc with _ hc; exact absurd hc (by decide)
  have hgm : gv.ownBlock ≠ some m := fun e => by
    obtain ⟨cur, hc⟩ := own_block h2 e
    obtain ⟨es, c, hb⟩ := h3.block
    rw [hb] at hc; cases hc
  have hfv : fitsK L W U k a = decide (a ≤ leftK L W U k) := rfl
  have hcv : cutU L W U k a = putU U k (leftK L W U k - a) := rfl
  have hfv' := Lib.hid hfv
  have hcv' := Lib.hid hcv
  have hU' := Lib.hid hU
  rw [← hx] at hgU hlook
  have hx' := Lib.hid hx
  clear hx
  have hm' := Lib.hid hm
  have hh1 := Lib.hid h1
  have hh2 := Lib.hid h2
  have hh3 := Lib.hid h3
  have H := Lib.hid (And.intro hgw (And.intro hgp (And.intro hgm hpm)))
  have hBs : B ≤ (w.alloc (.cells #[.string s, .int .i64 a, .int .i64 b] 50)).heap.size := by simp; omega
  clear hfv hcv hU h1 h2 h3 hgw hgp hgm hmm h0
  by_cases hu : k < U.length
  · have hd : decide (k < U.length) = true := decide_eq_true hu
    rw [hd] at hlook
    have hlf : leftK L W U k = x - W := by unfold leftK; rw [if_pos hu, hx'.out]
    rw [hlf] at hfv' hcv'
    by_cases hf : a ≤ x - W
    · rw [decide_eq_true hf] at hfv'
      have hnf : ¬ (x - W < a) := by omega
      have hV : -2000000 ≤ x - W - a ∧ x - W - a ≤ 2000000 := by omega
      obtain ⟨V, hVe⟩ : ∃ V, V = x - W - a := ⟨_, rfl⟩
      go_enter Try.func53, Try.ntmps53
      go_wp2
      generalize w.alloc (.cells #[.string s, .int .i64 a, .int .i64 b] 50) = W0 at k0 k1 k2 k3 r3 hlook q1 y1 hbB hBs hh1 hh2 hh3 ⊢
      generalize w.heap.size = bx at q1 y1 hne H ⊢
      go_still_tail 9, (by kernel_rfl)
      repeat still_step
      try refine wpStill_nil ?_
      change wpList _ _ _ _ _ W0.drew
      have g1 : W0.drew.heap[p]? = some (.cells #[.int .i64 L, .int .i64 W, .map (some m), gv] 68 (0, 0)) := hh1.out
      have g2 : W0.drew.ownsRow B 2 1 gv G.length (G.map encI) := own_kept hh2.out (belowN (Below.refl _ _) 1)
      have g3 : MapOf W0.drew m U := hh3.out
      have gb : Below B w W0.drew := belowN hbB.out 1
      have gs : B ≤ W0.drew.heap.size := hBs
      generalize W0.drew = W1 at g1 g2 g3 gb gs ⊢
      clear k0 k1 k2 k3 r3 hlook q1 y1 hbB hBs hh1 hh2 hh3
      obtain ⟨D, hown, hMU⟩ := g3
      have hMU2 := Lib.hid (mapU_put hown hMU k hk V)
      have hwv : (Lit.int .i64 V).wf = true := WalkArith.wf_i64 (by omega)
      have hkey := kI_key (k := k) (by omega)
      have hown' := Lib.hid hown
      have hVe' := Lib.hid hVe
      rw [← hVe, show IntKind.i64.wrap V = V from IntWalk.i64_in _ (by omega)]
      clear hMU hVe
      go_wp2_with (at_mapUpdate; refine wpList_mapUpdate_own _ rfl _ _ _ 66 rfl 2 2 lawK Try.underlying66 (plainElem Try.prog 2) m U.length D rfl hown (by unfold maxLen; omega) _ _ (kI k) rfl rfl hkey (dI V) [] (plainElem_int Try.underlying2 hwv) ?_)
      intro w1 hown1 hgrow1
      have hm1 : Hid (MapOf w1 m (putU U k V)) := Lib.hid ⟨_, by have := own_tight hown1; rw [hMU2.out.2.2] at this; exact this, hMU2.out⟩
      have hlt1 : p < W1.heap.size := (Array.getElem?_eq_some_iff.1 g1).1
      have e1 : w1.heap[p]? = some (.cells #[.int .i64 L, .int .i64 W, .map (some m), gv] 68 (0, 0)) := (hgrow1.block p hlt1 (fun e => H.out.2.2.2 (by injection e))).trans g1
      have e2 : w1.ownsRow B 2 1 gv G.length (G.map encI) := g2.kept (w' := w1) hgrow1 (Or.inr H.out.2.2.1)
      have eb : Hid (Below B w w1) := Lib.hid (gb.grown hgrow1 gs (fun k hk => by cases hk; exact hm'.out))
      have es : B ≤ w1.heap.size := Nat.le_trans gs hgrow1.size
      have c3 := cellB e1 3 _ rfl
      have e1' := Lib.hid e1
      have e2' := Lib.hid e2
      clear hown1 hgrow1 g1 g2 gb gs hlt1 hMU2 hown' hown e1
      go_wp2_with (at_builtin; refine wpList_append_own _ rfl _ _ 31 rfl B 2 i0 (.int .i64 0) 1 8 Try.underlying31 hi hz0 hz1 hz2 rfl (by decide) _ _ _ rfl (e2.alloc _) ⟨w1.heap.size, 0, none⟩ 1 1 [.int .i64 k] rfl rfl ?c1A ?c2A ?c3A ?c4A ?c5A ?_)
      case c1A =>
        intro j u hj
        match j, hj with
        | 0, hj => simp at hj; subst hj; simp [Addr.add]
      case c2A => intro u hu; simp at hu; subst hu; rfl
      case c3A => unfold maxLen; omega
      case c4A => omega
      case c5A => simp; omega
      intro v' w3 hown3 hgrow3 _
      have hlp : p < w1.heap.size := (Array.getElem?_eq_some_iff.1 e1'.out).1
      have a1 : w3.heap[p]? = some (.cells #[.int .i64 L, .int .i64 W, .map (some m), gv] 68 (0, 0)) :=
        (hgrow3.block p (by simp; omega) (fun e => H.out.2.1 e.symm)).trans ((Below.heap_alloc _ _ _ hlp).trans e1'.out)
      have am := Lib.hid ((hm1.out.kept (w' := w1.alloc (.cells #[.int .i64 k] 2)) (below_grown' ((Below.refl _ _).alloc (Nat.le_refl _) _) none) (by simp)).kept hgrow3 (fun e => H.out.2.2.1 e.symm))
      have ab := Lib.hid ((eb.out.alloc es (.cells #[.int .i64 k] 2)).grown hgrow3 (by simp; omega) (fun j hj => e2'.out.own_ge j hj))
      have ao : w3.ownsRow B 2 1 v' (G ++ [(k : Int)]).length ((G ++ [(k : Int)]).map encI) := by
        rw [List.length_append, List.map_append, List.map_singleton]; simpa [encI] using hown3
      have hvp : v'.ownBlock ≠ some p := fun e => by
        obtain ⟨cur, hc⟩ := own_block ao e
        rw [a1] at hc; injection hc with hc; injection hc with _ hc; exact absurd hc (by decide)
      obtain ⟨va, vcap, rfl⟩ := own_form hown3
      have ao' := Lib.hid ao
      have b3 := cellB a1 3 _ rfl
      have f3 := freeB a1 3
      have a1' := Lib.hid a1
      have hvp' := Lib.hid hvp
      clear hown3
      clear hgrow3 ao hvp c3 e1' e2' eb e2 hm1 a1
      go_wp2
      go_ret
      refine ⟨ret_bool hfv'.out.symm, ?_, ab.out.setCell (p := ⟨p, 3, none⟩) hp _, fun h => by rw [hfv'.out] at h; cases h⟩
      rw [hfv'.out, if_pos rfl, if_pos rfl, hcv'.out, ← hVe'.out]
      exact ⟨hp, hm'.out, ⟨_, heap_setS a1'.out 3 _ _ rfl, ao'.out.kept (grown_set _ _ _) (Or.inr hvp'.out)⟩, am.out.kept (grown_set _ _ _) (fun e => H.out.2.2.2 (by injection e with e; exact e.symm))⟩
    · rw [decide_eq_false hf] at hfv'
      go_enter Try.func53, Try.ntmps53
      go_wp2
      go_ret
      exact ⟨ret_bool hfv'.out.symm, by rw [hfv'.out]; exact ⟨hp, hm'.out, ⟨gv, hh1.out, hh2.out⟩, hh3.out⟩, hbB.out, fun _ => hb0⟩
  · have hd : decide (k < U.length) = false := decide_eq_false hu
    rw [hd] at hlook
    have hlf : leftK L W U k = L := by unfold leftK; rw [if_neg hu]
    rw [hlf] at hfv' hcv'
    by_cases hf : a ≤ L
    · rw [decide_eq_true hf] at hfv'
      have hnf : ¬ (L < a) := by omega
      have hV : -2000000 ≤ L - a ∧ L - a ≤ 2000000 := by omega
      obtain ⟨V, hVe⟩ : ∃ V, V = L - a := ⟨_, rfl⟩
      go_enter Try.func53, Try.ntmps53
      go_wp2
      generalize w.alloc (.cells #[.string s, .int .i64 a, .int .i64 b] 50) = W0 at k0 k1 k2 k3 r3 hlook q1 y1 hbB hBs hh1 hh2 hh3 ⊢
      generalize w.heap.size = bx at q1 y1 hne H ⊢
      go_still_tail 9, (by kernel_rfl)
      repeat still_step
      try refine wpStill_nil ?_
      change wpList _ _ _ _ _ W0.drew
      have g1 : W0.drew.heap[p]? = some (.cells #[.int .i64 L, .int .i64 W, .map (some m), gv] 68 (0, 0)) := hh1.out
      have g2 : W0.drew.ownsRow B 2 1 gv G.length (G.map encI) := own_kept hh2.out (belowN (Below.refl _ _) 1)
      have g3 : MapOf W0.drew m U := hh3.out
      have gb : Below B w W0.drew := belowN hbB.out 1
      have gs : B ≤ W0.drew.heap.size := hBs
      generalize W0.drew = W1 at g1 g2 g3 gb gs ⊢
      clear k0 k1 k2 k3 r3 hlook q1 y1 hbB hBs hh1 hh2 hh3
      obtain ⟨D, hown, hMU⟩ := g3
      have hMU2 := Lib.hid (mapU_put hown hMU k hk V)
      have hwv : (Lit.int .i64 V).wf = true := WalkArith.wf_i64 (by omega)
      have hkey := kI_key (k := k) (by omega)
      have hown' := Lib.hid hown
      have hVe' := Lib.hid hVe
      rw [← hVe, show IntKind.i64.wrap V = V from IntWalk.i64_in _ (by omega)]
      clear hMU hVe
      go_wp2_with (at_mapUpdate; refine wpList_mapUpdate_own _ rfl _ _ _ 66 rfl 2 2 lawK Try.underlying66 (plainElem Try.prog 2) m U.length D rfl hown (by unfold maxLen; omega) _ _ (kI k) rfl rfl hkey (dI V) [] (plainElem_int Try.underlying2 hwv) ?_)
      intro w1 hown1 hgrow1
      have hm1 : Hid (MapOf w1 m (putU U k V)) := Lib.hid ⟨_, by have := own_tight hown1; rw [hMU2.out.2.2] at this; exact this, hMU2.out⟩
      have hlt1 : p < W1.heap.size := (Array.getElem?_eq_some_iff.1 g1).1
      have e1 : w1.heap[p]? = some (.cells #[.int .i64 L, .int .i64 W, .map (some m), gv] 68 (0, 0)) := (hgrow1.block p hlt1 (fun e => H.out.2.2.2 (by injection e))).trans g1
      have e2 : w1.ownsRow B 2 1 gv G.length (G.map encI) := g2.kept (w' := w1) hgrow1 (Or.inr H.out.2.2.1)
      have eb : Hid (Below B w w1) := Lib.hid (gb.grown hgrow1 gs (fun k hk => by cases hk; exact hm'.out))
      have es : B ≤ w1.heap.size := Nat.le_trans gs hgrow1.size
      have c3 := cellB e1 3 _ rfl
      have e1' := Lib.hid e1
      have e2' := Lib.hid e2
      clear hown1 hgrow1 g1 g2 gb gs hlt1 hMU2 hown' hown e1
      go_wp2_with (at_builtin; refine wpList_append_own _ rfl _ _ 31 rfl B 2 i0 (.int .i64 0) 1 8 Try.underlying31 hi hz0 hz1 hz2 rfl (by decide) _ _ _ rfl (e2.alloc _) ⟨w1.heap.size, 0, none⟩ 1 1 [.int .i64 k] rfl rfl ?c1A ?c2A ?c3A ?c4A ?c5A ?_)
      case c1A =>
        intro j u hj
        match j, hj with
        | 0, hj => simp at hj; subst hj; simp [Addr.add]
      case c2A => intro u hu; simp at hu; subst hu; rfl
      case c3A => unfold maxLen; omega
      case c4A => omega
      case c5A => simp; omega
      intro v' w3 hown3 hgrow3 _
      have hlp : p < w1.heap.size := (Array.getElem?_eq_some_iff.1 e1'.out).1
      have a1 : w3.heap[p]? = some (.cells #[.int .i64 L, .int .i64 W, .map (some m), gv] 68 (0, 0)) :=
        (hgrow3.block p (by simp; omega) (fun e => H.out.2.1 e.symm)).trans ((Below.heap_alloc _ _ _ hlp).trans e1'.out)
      have am := Lib.hid ((hm1.out.kept (w' := w1.alloc (.cells #[.int .i64 k] 2)) (below_grown' ((Below.refl _ _).alloc (Nat.le_refl _) _) none) (by simp)).kept hgrow3 (fun e => H.out.2.2.1 e.symm))
      have ab := Lib.hid ((eb.out.alloc es (.cells #[.int .i64 k] 2)).grown hgrow3 (by simp; omega) (fun j hj => e2'.out.own_ge j hj))
      have ao : w3.ownsRow B 2 1 v' (G ++ [(k : Int)]).length ((G ++ [(k : Int)]).map encI) := by
        rw [List.length_append, List.map_append, List.map_singleton]; simpa [encI] using hown3
      have hvp : v'.ownBlock ≠ some p := fun e => by
        obtain ⟨cur, hc⟩ := own_block ao e
        rw [a1] at hc; injection hc with hc; injection hc with _ hc; exact absurd hc (by decide)
      obtain ⟨va, vcap, rfl⟩ := own_form hown3
      have ao' := Lib.hid ao
      have b3 := cellB a1 3 _ rfl
      have f3 := freeB a1 3
      have a1' := Lib.hid a1
      have hvp' := Lib.hid hvp
      clear hown3
      clear hgrow3 ao hvp c3 e1' e2' eb e2 hm1 a1
      go_wp2
      go_ret
      refine ⟨ret_bool hfv'.out.symm, ?_, ab.out.setCell (p := ⟨p, 3, none⟩) hp _, fun h => by rw [hfv'.out] at h; cases h⟩
      rw [hfv'.out, if_pos rfl, if_pos rfl, hcv'.out, ← hVe'.out]
      exact ⟨hp, hm'.out, ⟨_, heap_setS a1'.out 3 _ _ rfl, ao'.out.kept (grown_set _ _ _) (Or.inr hvp'.out)⟩, am.out.kept (grown_set _ _ _) (fun e => H.out.2.2.2 (by injection e with e; exact e.symm))⟩
    · rw [decide_eq_false hf] at hfv'
      go_enter Try.func53, Try.ntmps53
      go_wp2
      go_ret
      exact ⟨ret_bool hfv'.out.symm, by rw [hfv'.out]; exact ⟨hp, hm'.out, ⟨gv, hh1.out, hh2.out⟩, hh3.out⟩, hbB.out, fun _ => hb0⟩
end Go.Proofs.Ytgbjdjkmmmgnnaa
