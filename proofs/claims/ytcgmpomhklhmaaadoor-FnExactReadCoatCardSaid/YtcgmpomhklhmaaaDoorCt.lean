/-
  Coats by value and in memory: the law's copies and comparisons, validity of one.
-/
import Derived.Test.YtcgmpomhklhmaaaDoorCol
import Derived.Test.YtcgmpomhklhmaaaDoorName
import Derived.Test.YtcgmpomhklhmaaaDoorUnits
import Derived.Deep.Cut
namespace Go.Proofs.YtcgmpomhklhmaaaDoor
open Go.ChangeShapes Go.WideShapes Go.ChangeAt Go.RowKit Go.Deep
set_option linter.unusedVariables false
set_option linter.unusedSimpArgs false
set_option maxRecDepth 1000000
structure Ct where
  id : ByteArray
  days : Int
  cover : Int
  col : List Int
/-- the cells of one, u is its row of numbers -/
def Ct.cells (x : Ct) (u : Value) : List Value := [.string x.id, .int .i64 x.days, .int .i64 x.cover, u]
/-- one that lies in memory -/
def CtAt (w : World) (g o : Nat) (x : Ct) (u : Value) : Prop := (w.cell? ⟨g, o, none⟩ = some (.string x.id) ∧ w.cell? ⟨g, o + 1, none⟩ = some (.int .i64 x.days) ∧ w.cell? ⟨g, o + 2, none⟩ = some (.int .i64 x.cover) ∧ w.cell? ⟨g, o + 3, none⟩ = some u) ∧ IntsAt w u x.col
theorem CtAt.below {w w' : World} {g o : Nat} {x : Ct} {u : Value} (h : CtAt w g o x u) (hg : g < w.heap.size) (hb : Below w.heap.size w w') : CtAt w' g o x u :=
  ⟨⟨(hb.cell (p := ⟨g, _, none⟩) hg).trans h.1.1, (hb.cell (p := ⟨g, _, none⟩) hg).trans h.1.2.1, (hb.cell (p := ⟨g, _, none⟩) hg).trans h.1.2.2.1, (hb.cell (p := ⟨g, _, none⟩) hg).trans h.1.2.2.2⟩, h.2.below hb⟩
theorem ctAt_of {w : World} {g o : Nat} {x : Ct} {u : Value} (h : w.rangeAt g o (x.cells u)) (hi : IntsAt w u x.col) : CtAt w g o x u :=
  ⟨⟨by simpa using h 0 _ rfl, h 1 _ rfl, h 2 _ rfl, h 3 _ rfl⟩, hi⟩
theorem intsShape {w : World} {v : Value} {Z : List Int} (h : IntsAt w v Z) : ∃ a cap, v = .slice a Z.length cap := by obtain ⟨a, cap, h, _⟩ := h; exact ⟨a, cap, h⟩
theorem szInts_any (v : Value) (Z : List Int) (n : Int) (w : World) (hn0 : 0 ≤ n) (hn1 : n ≤ 1048576) (hZ : Z.length ≤ maxLen) (hv : IntsAt w v Z) : Calls Tryd.prog 14 #[v, .int .i64 n] w fun e w' => e = .returned (.int .i64 (if (Z.length : Int) ≤ n then n - Z.length else -1)) ∧ w' = w := by
  unfold maxLen at hZ
  obtain ⟨a, cap, rfl⟩ := intsShape hv
  clear hv
  by_cases h : (Z.length : Int) ≤ n
  · go_enter Tryd.func14, Tryd.ntmps14
    go_wp2
    go_ret
    exact ⟨rfl, rfl⟩
  · go_enter Tryd.func14, Tryd.ntmps14
    go_wp2
    go_ret
    exact ⟨rfl, rfl⟩
/-- what is left behind one -/
def ctLeft (s : ByteArray) (L : List Int) (n : Int) : Int := if (s.size : Int) + L.length ≤ n then n - s.size - L.length else -1
theorem szCoat_any (s : ByteArray) (a b : Int) (u : Value) (L : List Int) (n : Int) (h0 : 0 ≤ n) (h1 : n ≤ 1048576) (hs : s.size ≤ maxLen) (hL : L.length ≤ maxLen) (w : World) (hv : IntsAt w u L) : Calls Tryd.prog 5 #[.agg #[.string s, .int .i64 a, .int .i64 b, u], .int .i64 n] w fun e w' => e = .returned (.int .i64 (ctLeft s L n)) ∧ Below w.heap.size w w' := by
  have hx : Hid (ctLeft s L n = if (s.size : Int) + L.length ≤ n then n - s.size - L.length else -1) := Lib.hid rfl
  have hL' := Lib.hid hL
  have hLp : 0 ≤ (L.length : Int) := by omega
  unfold maxLen at hs
  have cS := Lib.hid (fun (W : World) (hb : Below w.heap.size w W) (m : Int) (q0 : 0 ≤ m) (q1 : m ≤ 1048576) => szInts_any u L m W q0 q1 hL'.out (hv.below hb))
  have hal : Below w.heap.size w (w.alloc (.cells #[.string s, .int .i64 a, .int .i64 b, u] 24)) := (Below.refl _ _).alloc (Nat.le_refl _) _
  clear hv
  by_cases hq : (s.size : Int) ≤ n
  · by_cases hr : (L.length : Int) ≤ n - s.size
    · have cT := Lib.hid (cS.out _ hal (n - s.size) (by omega) (by omega))
      rw [if_pos hr] at cT
      clear cS
      go_enter Tryd.func5, Tryd.ntmps5
      go_wp2_with (go_at_call 14; (with_reducible refine cT.out.mono ?_); rintro e w2 ⟨rfl, rfl⟩)
      go_ret
      exact ⟨ret_int (by rw [hx.out, if_pos (by omega)]), hal⟩
    · have cT := Lib.hid (cS.out _ hal (n - s.size) (by omega) (by omega))
      rw [if_neg hr] at cT
      clear cS
      go_enter Tryd.func5, Tryd.ntmps5
      go_wp2_with (go_at_call 14; (with_reducible refine cT.out.mono ?_); rintro e w2 ⟨rfl, rfl⟩)
      go_ret
      exact ⟨ret_int (by rw [hx.out, if_neg (by omega)]), hal⟩
  · clear cS
    go_enter Tryd.func5, Tryd.ntmps5
    go_wp2
    go_ret
    exact ⟨ret_int (by rw [hx.out, if_neg (by omega)]), hal⟩
theorem ownShape {w : World} {B e size n : Nat} {v : Value} {xs : List Value} (h : w.ownsRow B e size v n xs) : ∃ a cap, v = .slice a n cap := by
  rcases h.2 with ⟨rfl, rfl⟩ | ⟨g, cap, _, rfl, _⟩
  · exact ⟨none, 0, rfl⟩
  · exact ⟨_, cap, rfl⟩
/-- the boxes of a copy -/
theorem toCt_boxes (w : World) (s : ByteArray) (a b : Int) (u : Value) (T T' : TypeId) (cs : Array Value) (hcs : cs.size = 4) :
    let W0 := ((w.alloc (.cells #[.string s, .int .i64 a, .int .i64 b, u] T)).alloc (.cells cs T')).alloc (.cells #[.string s, .int .i64 a, .int .i64 b, .slice none 0 0] T')
    W0.cell? ⟨w.heap.size, 3, none⟩ = some u ∧ W0.there (w.heap.size + 1) 0 4 ∧ W0.there (w.heap.size + 1 + 1) 0 4 ∧ W0.rangeAt (w.heap.size + 1 + 1) 0 [.string s, .int .i64 a, .int .i64 b, .slice none 0 0] ∧ Below w.heap.size w W0 ∧ W0.heap.size = w.heap.size + 3 := by
  intro W0
  have s1 : (w.alloc (.cells #[.string s, .int .i64 a, .int .i64 b, u] T)).heap.size = w.heap.size + 1 := by simp
  have s2 : ((w.alloc (.cells #[.string s, .int .i64 a, .int .i64 b, u] T)).alloc (.cells cs T')).heap.size = w.heap.size + 1 + 1 := by simp
  generalize hW1 : w.alloc (.cells #[.string s, .int .i64 a, .int .i64 b, u] T) = W1 at s1 s2
  generalize hW2 : W1.alloc (.cells cs T') = W2 at s2
  have hb2 : Below W2.heap.size W2 W0 := by show Below _ _ ((( _ : World).alloc _).alloc _ |>.alloc _); rw [hW1, hW2]; exact (Below.refl _ _).alloc (Nat.le_refl _) _
  have hb1 : Below W1.heap.size W1 W2 := by rw [← hW2]; exact (Below.refl _ _).alloc (Nat.le_refl _) _
  have hb0 : Below w.heap.size w W1 := by rw [← hW1]; exact (Below.refl _ _).alloc (Nat.le_refl _) _
  have h1 : W1.heap[w.heap.size]? = some (.cells #[.string s, .int .i64 a, .int .i64 b, u] T (0, 0)) := by rw [← hW1]; exact heap_alloc_new _ _
  have h2 : W2.heap[w.heap.size + 1]? = some (.cells cs T' (0, 0)) := by rw [← hW2, ← s1]; exact heap_alloc_new _ _
  have h3 : W0.heap[w.heap.size + 1 + 1]? = some (.cells #[.string s, .int .i64 a, .int .i64 b, .slice none 0 0] T' (0, 0)) := by
    show ((( _ : World).alloc _).alloc _ |>.alloc _).heap[_]? = _
    rw [hW1, hW2, ← s2]; exact heap_alloc_new _ _
  have t1 : W2.there (w.heap.size + 1) 0 4 := fun j hj => ⟨by rw [Nat.zero_add, cellB h2 j (cs[j]'(by omega)) (Array.getElem?_eq_getElem (by omega))]; rfl, by rw [Nat.zero_add]; exact freeB h2 j⟩
  refine ⟨(bcell hb2 _ _ (by omega)).trans ((bcell hb1 _ _ (by omega)).trans (cellB h1 3 _ rfl)), there_below t1 (by omega) hb2, ?_, ?_, (hb0.trans (hb1.mono hb0.size)).trans (hb2.mono (by omega)), ?_⟩
  · intro j hj
    rw [Nat.zero_add]
    refine ⟨?_, freeB h3 j⟩
    rw [cellB h3 j ((#[.string s, .int .i64 a, .int .i64 b, .slice none 0 0] : Array Value)[j]'(by simpa using hj)) (Array.getElem?_eq_getElem _)]; rfl
  · intro j v hv
    rw [Nat.zero_add]
    exact cellB h3 j v (by simpa using hv)
  · show ((( _ : World).alloc _).alloc _ |>.alloc _).heap.size = _
    rw [hW1, hW2]; simp [s2]
theorem grownSet (w : World) (a : Addr) (u : Value) : w.grownBy (w.setCell a u) (some a.block) :=
  ⟨rfl, rfl, rfl, by simp, fun k _ hk => Below.heap_setCell _ _ _ k (fun e => hk (by rw [e]))⟩
theorem grownSets (b : Nat) : ∀ (vs : List Value) (o : Nat) (w : World), w.grownBy (w.setCells b o vs) (some b)
  | [], _, w => World.grownBy.refl _ _
  | v :: r, o, w => gtrans (grownSet w ⟨b, o, none⟩ v) (grownSets b r (o + 1) _)
theorem sizeCt : (Tryd.prog.info? 27).map (·.size) = some 4 := by kernel_rfl
theorem oneCt (s : ByteArray) (a b : Int) (p : Option Addr) (n c : Nat) : (#[Value.string s, .int .i64 a, .int .i64 b, .slice p n c] : Array Value).all (·.oneCell') = true := by simp [Value.oneCell']
theorem toCt_after {w W0 w2 : World} {s : ByteArray} {a b : Int} {L : List Int} {a2 : Option Addr} {c2 : Nat}
    (hF : (W0.there (w.heap.size + 1) 0 4 ∧ W0.there (w.heap.size + 1 + 1) 0 4) ∧ W0.rangeAt (w.heap.size + 1 + 1) 0 [.string s, .int .i64 a, .int .i64 b, .slice none 0 0] ∧ Below w.heap.size w W0 ∧ W0.heap.size = w.heap.size + 3)
    (hb2 : Below W0.heap.size W0 w2) (ho : w2.ownsRow W0.heap.size 2 1 (.slice a2 L.length c2) L.length (L.map encI)) :
    w2.cell? ⟨w.heap.size + 1 + 1, 3, none⟩ = some (.slice none 0 0) ∧ w2.frozen? ⟨w.heap.size + 1 + 1, 3, none⟩ = false ∧
    (w2.setCell ⟨w.heap.size + 1 + 1, 3, none⟩ (.slice a2 L.length c2)).rangeAt (w.heap.size + 1 + 1) 0 [.string s, .int .i64 a, .int .i64 b, .slice a2 L.length c2] ∧
    (w2.setCell ⟨w.heap.size + 1 + 1, 3, none⟩ (.slice a2 L.length c2)).there (w.heap.size + 1) 0 4 ∧
    (w2.setCell ⟨w.heap.size + 1 + 1, 3, none⟩ (.slice a2 L.length c2)).ownsRow w.heap.size 2 1 (.slice a2 L.length c2) L.length (L.map encI) ∧
    (.slice a2 L.length c2 : Value).ownBlock ≠ some (w.heap.size + 1) ∧
    Below w.heap.size w (w2.setCell ⟨w.heap.size + 1 + 1, 3, none⟩ (.slice a2 L.length c2)) := by
  obtain ⟨⟨t1, t2⟩, hr, hB, hsz⟩ := hF
  have hr2 := range_below hr (by omega) hb2
  have t12 := there_below t1 (by omega) hb2
  have t22 := there_below t2 (by omega) hb2
  have t23 := t22 3 (by omega)
  rw [Nat.zero_add] at t23
  have hsame : (w2.setCell ⟨w.heap.size + 1 + 1, 3, none⟩ (.slice a2 L.length c2)).cell? ⟨w.heap.size + 1 + 1, 3, none⟩ = some (.slice a2 L.length c2) := by
    have := World.rangeAt_setCells_same w2 (w.heap.size + 1 + 1) 3 [.slice a2 L.length c2] (there_part t22 3 1 (by omega)) 0 _ rfl
    simpa [World.setCells] using this
  have hoth : ∀ j v, j < 3 → w2.cell? ⟨w.heap.size + 1 + 1, j, none⟩ = some v → (w2.setCell ⟨w.heap.size + 1 + 1, 3, none⟩ (.slice a2 L.length c2)).cell? ⟨w.heap.size + 1 + 1, j, none⟩ = some v := fun j v hj hv => by
    have h1 : w2.rangeAt (w.heap.size + 1 + 1) j [v] := fun i x hx => by
      match i, hx with
      | 0, hx => simpa using (by simpa using hx : v = x) ▸ hv
    have := World.rangeAt_setCells_apart h1 (w.heap.size + 1 + 1) 3 [.slice a2 L.length c2] (Or.inr (Or.inl (by simp; omega))) 0 v rfl
    simpa [World.setCells] using this
  have k := fun j v h => hr2 j v h
  refine ⟨by simpa using hr2 3 _ rfl, t23.2, ?_, (by have := World.there_setCells t12 (w.heap.size + 1 + 1) 3 [.slice a2 L.length c2]; simpa [World.setCells] using this), ?_, (fun hh => by have := (ho.lt _ hh).1; omega), (hB.trans (hb2.mono (by omega))).setCell (p := ⟨_, _, _⟩) (by show w.heap.size ≤ w.heap.size + 1 + 1; omega) _⟩
  · intro j v hv
    rw [Nat.zero_add]
    match j, hv with
    | 0, hv => exact hoth 0 v (by omega) (by have := hr2 0 v hv; simpa using this)
    | 1, hv => exact hoth 1 v (by omega) (by have := hr2 1 v hv; simpa using this)
    | 2, hv => exact hoth 2 v (by omega) (by have := hr2 2 v hv; simpa using this)
    | 3, hv => rw [hsame]; simpa using hv
  · refine (own_low ho (by omega)).kept (grownSet w2 ⟨w.heap.size + 1 + 1, 3, none⟩ _) ?_
    right
    intro hh
    have := (ho.lt _ hh).1
    simp at this
    omega
theorem toCt_end {w w3 w5 : World} {s : ByteArray} {a b : Int} {L : List Int} {a2 : Option Addr} {c2 : Nat} (th : w3.there (w.heap.size + 1) 0 4) (ow : w3.ownsRow w.heap.size 2 1 (.slice a2 L.length c2) L.length (L.map encI)) (hb : Below w.heap.size w w3)
    (hne : (.slice a2 L.length c2 : Value).ownBlock ≠ some (w.heap.size + 1)) (hW : w3.setCells (w.heap.size + 1) 0 [.string s, .int .i64 a, .int .i64 b, .slice a2 L.length c2] = w5) :
    (w5.cell? ⟨w.heap.size + 1, 0, none⟩ = some (.string s) ∧ w5.cell? ⟨w.heap.size + 1, 1, none⟩ = some (.int .i64 a) ∧ w5.cell? ⟨w.heap.size + 1, 2, none⟩ = some (.int .i64 b) ∧ w5.cell? ⟨w.heap.size + 1, 3, none⟩ = some (.slice a2 L.length c2)) ∧ w5.ownsRow w.heap.size 2 1 (.slice a2 L.length c2) L.length (L.map encI) ∧ Below w.heap.size w w5 := by
  subst hW
  have hr := World.rangeAt_setCells_same w3 (w.heap.size + 1) 0 [.string s, .int .i64 a, .int .i64 b, .slice a2 L.length c2] th
  exact ⟨⟨by simpa using hr 0 _ rfl, by simpa using hr 1 _ rfl, by simpa using hr 2 _ rfl, by simpa using hr 3 _ rfl⟩, ow.kept (grownSets _ _ _ _) (Or.inr hne), below_sets (by omega) _ _ _ hb⟩
set_option maxHeartbeats 1600000 in
theorem toCoat_any (s : ByteArray) (a b : Int) (u : Value) (L : List Int) (hL : L.length ≤ 1048576) (w : World) (hv : IntsAt w u L) : Calls Tryd.prog 7 #[.agg #[.string s, .int .i64 a, .int .i64 b, u]] w fun e w' => ∃ u', e = .returned (.agg #[.string s, .int .i64 a, .int .i64 b, u']) ∧ w'.ownsRow w.heap.size 2 1 u' L.length (L.map encI) ∧ Below w.heap.size w w' := by
  have cT := Lib.hid (fun (W : World) (hb : Below w.heap.size w W) => toInt64S_any u L W hL (hv.below hb))
  clear hv hL
  go_enter Tryd.func7, Tryd.ntmps7
  go_upto_region 5 with fail
  obtain ⟨q3, t1, t2, hr0, hB0, hsz⟩ := toCt_boxes w s a b u 24 27 #[.string { data := #[] }, .int .i64 0, .int .i64 0, .slice none 0 0] rfl
  generalize ((w.alloc (.cells #[.string s, .int .i64 a, .int .i64 b, u] 24)).alloc (.cells #[.string { data := #[] }, .int .i64 0, .int .i64 0, .slice none 0 0] 27)).alloc (.cells #[.string s, .int .i64 a, .int .i64 b, .slice none 0 0] 27) = W0 at q3 t1 t2 hr0 hB0 hsz ⊢
  have hF := Lib.hid (And.intro (And.intro t1 t2) (And.intro hr0 (And.intro hB0 hsz)))
  have cU := Lib.hid (cT.out W0 hB0)
  clear t1 t2 hr0 hB0 hsz cT
  go_wp2_with (first
    | (go_at_call 17; (with_reducible refine cU.out.mono ?_); rintro e w2 ⟨u', rfl, ho, hb2⟩; obtain ⟨a2, c2, rfl⟩ := ownShape ho; obtain ⟨c3, f3, hr, th, ow, hne, hbx⟩ := toCt_after hF.out hb2 ho; clear ho hb2)
    | (refine wpList_load_mid rfl _ _ rfl (w.heap.size + 1 + 1) 0 rfl _ _ hr Tryd.underlying27 rfl rfl ?_)
    | (refine wpList_store_mid rfl _ _ _ rfl (w.heap.size + 1) 0 _ rfl rfl ?_ sizeCt (oneCt _ _ _ _ _ _) ?_; (exact th); generalize hW : World.setCells _ _ _ _ = w5; (have H := toCt_end th ow hbx hne hW); clear hW))
  obtain ⟨⟨e0, e1, e2, e3⟩, ow5, hb5⟩ := H
  exact bodyPost_ret (v := .agg #[.string s, .int .i64 a, .int .i64 b, .slice a2 L.length c2]) (by simp [results, Tryd.results7, go_sem, e0, e1, e2, e3]) rfl ⟨_, rfl, ow5, hb5⟩
set_option maxHeartbeats 1600000 in
theorem eqCoat_any (s : ByteArray) (a b : Int) (u u' : Value) (L : List Int) (hL : L.length ≤ 1048576) (w : World) (h1 : IntsAt w u L) (h2 : IntsAt w u' L) : Calls Tryd.prog 9 #[.agg #[.string s, .int .i64 a, .int .i64 b, u], .agg #[.string s, .int .i64 a, .int .i64 b, u']] w fun e w' => e = .returned (.bool true) ∧ Below w.heap.size w w' := by
  have cE := Lib.hid (fun (W : World) (hb : Below w.heap.size w W) => eqInt64S_any u u' L W (by omega) (h1.below hb) (h2.below hb))
  clear h1 h2 hL
  go_enter Tryd.func9, Tryd.ntmps9
  go_upto_region 1 with fail
  obtain ⟨q1, q2, hB0, hsz⟩ := two_boxC w #[.string s, .int .i64 a, .int .i64 b, u] 27 #[.string s, .int .i64 a, .int .i64 b, u'] 27
  generalize (w.alloc (.cells #[.string s, .int .i64 a, .int .i64 b, u] 27)).alloc (.cells #[.string s, .int .i64 a, .int .i64 b, u'] 27) = W0 at q1 q2 hB0 hsz ⊢
  have c0 := q1 0 _ rfl
  have c1 := q1 1 _ rfl
  have c2 := q1 2 _ rfl
  have c3 := q1 3 _ rfl
  have d0 := q2 0 _ rfl
  have d1 := q2 1 _ rfl
  have d2 := q2 2 _ rfl
  have d3 := q2 3 _ rfl
  have cF := Lib.hid (cE.out W0 hB0)
  have hB' := Lib.hid hB0
  clear q1 q2 hB0 cE
  go_wp2_with (go_at_call 21; (with_reducible refine cF.out.mono ?_); rintro e w2 ⟨rfl, m, rfl⟩)
  go_ret
  exact ⟨rfl, belowN hB'.out m⟩
/-- a coat is valid -/
def ctB (x : Ct) : Bool := nameL x.id.data.toList && inB x.days 0 365 && inB x.cover 0 1000 && colB x.col
theorem ctB_mk (s : ByteArray) (a b : Int) (L : List Int) : ctB ⟨s, a, b, L⟩ = (nameL s.data.toList && inB a 0 365 && inB b 0 1000 && colB L) := rfl
theorem ct_bd {s : ByteArray} {a b : Int} {L : List Int} (h : ctB ⟨s, a, b, L⟩ = true) : (0 ≤ a ∧ a ≤ 365) ∧ (0 ≤ b ∧ b ≤ 1000) ∧ colB L = true := by
  rw [ctB_mk] at h
  simp only [Bool.and_eq_true, inB_iff] at h
  exact ⟨h.1.1.2, h.1.2, h.2⟩
theorem one_boxC (w : World) (cs : Array Value) (T : TypeId) : (∀ i v, cs[i]? = some v → (w.alloc (.cells cs T)).cell? ⟨w.heap.size, i, none⟩ = some v) ∧ Below w.heap.size w (w.alloc (.cells cs T)) ∧ w.heap.size < (w.alloc (.cells cs T)).heap.size :=
  ⟨fun i v h => cellB (heap_alloc_new _ _) i v h, (Below.refl _ _).alloc (Nat.le_refl _) _, by simp⟩
set_option maxHeartbeats 1600000 in
theorem isValidCt_any (s : ByteArray) (a b : Int) (u : Value) (L : List Int) (hs : s.size ≤ maxLen) (hL : L.length ≤ maxLen) (w : World) (hv : IntsAt w u L) : Calls Tryd.prog 18 #[.agg #[.string s, .int .i64 a, .int .i64 b, u]] w fun e w' => e = .returned (.bool (ctB ⟨s, a, b, L⟩)) ∧ Below w.heap.size w w' := by
  have hx : Hid (ctB ⟨s, a, b, L⟩ = (nameL s.data.toList && inB a 0 365 && inB b 0 1000 && colB L)) := Lib.hid rfl
  have cC := Lib.hid (fun (W : World) (hb : Below w.heap.size w W) => isColour_any u L W hL (hv.below hb))
  have cN := fun W => implIsName_any s W hs
  have cA := fun W => within64_any a 0 365 W
  have cB := fun W => within64_any b 0 1000 W
  obtain ⟨q1, hB0, hsz⟩ := one_boxC w #[.string s, .int .i64 a, .int .i64 b, u] 27
  have c0 := q1 0 _ rfl
  have c1 := q1 1 _ rfl
  have c2 := q1 2 _ rfl
  have c3 := q1 3 _ rfl
  have cD := cC.out _ hB0
  obtain ⟨W0, hW0⟩ : ∃ W0, W0 = w.alloc (.cells #[.string s, .int .i64 a, .int .i64 b, u] 27) := ⟨_, rfl⟩
  rw [← hW0] at c0 c1 c2 c3 cD hB0 hsz
  have hB' := Lib.hid hB0
  clear q1 cC hB0 hv hL
  obtain ⟨q, hq⟩ : ∃ q, q = colB L := ⟨_, rfl⟩
  rw [← hq] at cD hx
  clear hq
  generalize nameL s.data.toList = r1 at cN hx
  generalize inB a 0 365 = r2 at cA hx
  generalize inB b 0 1000 = r3 at cB hx
  cases r1
  rotate_left
  cases r2
  rotate_left
  cases r3
  rotate_left
  all_goals
    have cN' := Lib.hid cN
    have cA' := Lib.hid cA
    have cB' := Lib.hid cB
    have cD' := Lib.hid cD
    clear cN cA cB cD
    go_enter Tryd.func18, Tryd.ntmps18
    go_upto_region 1 with fail
    rw [← hW0]
    clear hW0
    go_wp2_with (first
      | (go_at_call 33; (with_reducible refine (cN'.out _).mono ?_); rintro e w' ⟨rfl, rfl⟩)
      | (go_at_call 34; (with_reducible refine (cA'.out _).mono ?_); rintro e w' ⟨rfl, rfl⟩)
      | (go_at_call 34; (with_reducible refine (cB'.out _).mono ?_); rintro e w' ⟨rfl, rfl⟩)
      | (go_at_call 35; (with_reducible refine cD'.out.mono ?_); rintro e w' ⟨rfl, b2⟩))
    go_ret
    first
      | exact ⟨ret_bool (by rw [hx.out]; simp), hB'.out.trans (b2.mono hB'.out.size)⟩
      | exact ⟨ret_bool (by rw [hx.out]; rfl), hB'.out⟩
set_option maxHeartbeats 1600000 in
theorem l13One_any (x : Ct) (u : Value) (g o : Nat) (hs : x.id.size ≤ maxLen) (hL : x.col.length ≤ maxLen) (w : World) (hat : CtAt w g o x u) : Calls Tryd.prog 15 #[.pointer (some ⟨g, o, none⟩)] w fun e w' => e = .returned (.bool (ctB x)) ∧ w = w' := by
  obtain ⟨s, a, b, L⟩ := x
  have hx : Hid (ctB ⟨s, a, b, L⟩ = (nameL s.data.toList && inB a 0 365 && inB b 0 1000 && colB L)) := Lib.hid rfl
  obtain ⟨⟨c0, c1, c2, c3⟩, hv⟩ := hat
  simp only at hs hL c0 c1 c2 c3 hv
  have cC := l13Colour_any u L w hL hv
  have cN := fun W => l01Name_any s W hs
  have cA := fun W => l00In_any a 0 365 W
  have cB := fun W => l00In_any b 0 1000 W
  obtain ⟨q, hq⟩ : ∃ q, q = colB L := ⟨_, rfl⟩
  rw [← hq] at cC hx
  clear hq hv hL
  generalize nameL s.data.toList = r1 at cN hx
  generalize inB a 0 365 = r2 at cA hx
  generalize inB b 0 1000 = r3 at cB hx
  cases r1
  rotate_left
  cases r2
  rotate_left
  cases r3
  rotate_left
  all_goals
    have cN' := Lib.hid cN
    have cA' := Lib.hid cA
    have cB' := Lib.hid cB
    have cC' := Lib.hid cC
    clear cN cA cB cC
    go_enter Tryd.func15, Tryd.ntmps15
    go_wp2_with (first
      | (go_at_call 29; (with_reducible refine (cN'.out _).mono ?_); rintro e w' ⟨rfl, rfl⟩)
      | (go_at_call 30; (with_reducible refine (cA'.out _).mono ?_); rintro e w' ⟨rfl, rfl⟩)
      | (go_at_call 30; (with_reducible refine (cB'.out _).mono ?_); rintro e w' ⟨rfl, rfl⟩)
      | (go_at_call 31; (with_reducible refine cC'.out.mono ?_); rintro e w' ⟨rfl, rfl⟩))
    go_ret
    first
      | exact ⟨ret_bool (by rw [hx.out]; simp), rfl⟩
      | exact ⟨ret_bool (by rw [hx.out]; rfl), rfl⟩
/-- a value that is such a struct -/
def CtV (w : World) (v : Value) : Prop := ∃ (s : ByteArray) (a b : Int) (u : Value) (L : List Int), v = .agg #[.string s, .int .i64 a, .int .i64 b, u] ∧ s.size ≤ maxLen ∧ L.length ≤ maxLen ∧ IntsAt w u L
theorem intsOf {w : World} {x : Addr} {len cap : Nat} {zs : List Int} (hl : len ≤ cap) (hz : len ≤ zs.length) (hcell : ∀ i, i < zs.length → w.cell? (x.add i) = some (.int .i64 (zs.getD i 0))) (hwz : ∀ n ∈ zs, (Lit.int .i64 n).wf = true) : IntsAt w (.slice (some x) len cap) (zs.take len) := by
  refine ⟨some x, cap, by rw [List.length_take]; congr 1; omega, by rw [List.length_take]; omega, fun n hn => ?_, ?_⟩
  · have := bounds_i64 (hwz n (List.mem_of_mem_take hn)); exact this
  · by_cases h0 : len = 0
    · left; subst h0; simp
    · right
      obtain ⟨b, off, spot⟩ := x
      have hc := hcell 0 (by omega)
      have hspot : spot = none := by simpa [Addr.add] using World.cell?_spot hc
      subst hspot
      refine ⟨b, off, rfl, World.block_lt_of_cell? w _ (by have := hc; simpa [Addr.add] using this), fun i hi => ?_⟩
      have hi2 : i < zs.length := by rw [List.length_take] at hi; omega
      have := hcell i hi2
      rw [add_plain] at this
      rw [this]
      simp [List.getD, List.getElem?_eq_getElem hi2]
theorem ct_cells {H : Type} {enc : TypeId × Value → H} {w : World} {base : Nat} {spare : Nat → Bool} {held : Bool} {fuel : Nat} {l : List Value} {x : DataW H × List MemPlace} (h : DataW.trod enc Tryd.prog w base spare held fuel 24 l = some x) (hl : l.length = 4) :
    ∃ (s : ByteArray) (a b : Int) (u : Value) (L : List Int), l = [.string s, .int .i64 a, .int .i64 b, u] ∧ s.size ≤ maxLen ∧ L.length ≤ maxLen ∧ IntsAt w u L := by
  match l, hl with
  | [c0, c1, c2, c3], _ =>
    obtain ⟨xs, n, _, _, _, hlen, hg⟩ := DataW.trod_struct Tryd.underlying24 h
    have z1 : (Tryd.prog.cellsOf 9) = 1 := by kernel_rfl
    have z2 : (Tryd.prog.cellsOf 2) = 1 := by kernel_rfl
    have z3 : (Tryd.prog.cellsOf 22) = 1 := by kernel_rfl
    match xs, hlen with
    | [y0, y1, y2, y3], _ =>
      have g0 := hg 0 _ rfl
      have g1 := hg 1 _ rfl
      have g2 := hg 2 _ rfl
      have g3 := hg 3 _ rfl
      simp [z1, z2, z3] at g0 g1 g2 g3
      obtain ⟨s, e0, _, hs⟩ := DataW.trod_string Tryd.underlying9 g0
      obtain ⟨a, e1, _, _⟩ := DataW.trod_int Tryd.underlying2 g1
      obtain ⟨b, e2, _, _⟩ := DataW.trod_int Tryd.underlying2 g2
      simp at e0 e1 e2
      subst e0 e1 e2
      rcases open_ints Tryd.underlying22 Tryd.underlying2 z2 g3 with ⟨hcs, _⟩ | ⟨a', len', cap', zs, hcs, _, hl', hm', hz, _, hcell, hwz⟩
      · simp at hcs
        subst hcs
        exact ⟨s, a, b, _, [], rfl, hs, Nat.zero_le _, ⟨none, 0, rfl, Nat.le_refl 0, fun n hn => (by cases hn), Or.inl rfl⟩⟩
      · simp at hcs
        subst hcs
        have hz2 : len' ≤ zs.length := by rw [hz]; split <;> omega
        exact ⟨s, a, b, _, zs.take len', rfl, hs, by rw [List.length_take]; omega, intsOf hl' hz2 hcell hwz⟩
set_option maxRecDepth 1000000 in
theorem ct_open {H : Type} {enc : TypeId × Value → H} {w : World} {base : Nat} {spare : Nat → Bool} {held : Bool} {r : Reach} {b0 : Nat} {v : Value} {d : DataW H} {p : List MemPlace} (hv : Value.okWide Tryd.prog w r b0 24 v) (h : DataW.Trod enc Tryd.prog w base spare held 24 v d p) : CtV w v := by
  obtain ⟨cs, rfl, hsz⟩ := okWide_struct Tryd.underlying24 hv
  obtain ⟨l⟩ := cs
  obtain ⟨fuel, hf⟩ := h
  have hC : Tryd.prog.cellsOf 24 = 4 := by kernel_rfl
  obtain ⟨s, a, b, u, L, e, hs, hL, hi⟩ := ct_cells hf (by simpa [Value.cells] using hsz.trans hC)
  have e' : l = [.string s, .int .i64 a, .int .i64 b, u] := by simpa [Value.cells] using e
  subst e'
  exact ⟨s, a, b, u, L, rfl, hs, hL, hi⟩
end Go.Proofs.YtcgmpomhklhmaaaDoor
