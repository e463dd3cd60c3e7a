/-
  Texts that stand together: Aft, Dcv, Dcl.
-/
import Derived.Deep.RegionWith
import Derived.OwnWalk
import Derived.Test.YtgfhjcbmilaegaaGreatDoorMg1
import Derived.Test.YtgfhjcbmilaegaaGreatDoorMg2
import Derived.Test.YtgfhjcbmilaegaaGreatDoorMg4
import Derived.Test.YtgfhjcbmilaegaaGreatDoorMg5
import Derived.Test.YtgfhjcbmilaegaaGreatDoorMg6
import Derived.Test.YtgfhjcbmilaegaaGreatDoorMg9
namespace Go.Proofs.YtgfhjcbmilaegaaGreatDoor
open Go.ChangeShapes Go.WideShapes Go.ChangeAt Go.RowKit Go.Deep
set_option linter.unusedVariables false
set_option linter.unusedSimpArgs false
set_option maxRecDepth 1000000
/-- a coat over a colour -/
def ov3 (c : List Int) (v : Int) (G : List Int) : List Int := [ovN (G.getD 0 0) (c.getD 0 0) v, ovN (G.getD 1 0) (c.getD 1 0) v, ovN (G.getD 2 0) (c.getD 2 0) v]
/-- the colour after the first k of an order -/
def aftK (Z : List Ct) (O G : List Int) : Nat → List Int
  | 0 => G
  | k + 1 => ov3 (Z.getD (O.getD k 0).toNat ct0).col (Z.getD (O.getD k 0).toNat ct0).cover (aftK Z O G k)
def col3 (G : List Int) : Prop := ∃ a b c : Int, G = [a, b, c] ∧ (0 ≤ a ∧ a ≤ 255) ∧ (0 ≤ b ∧ b ≤ 255) ∧ (0 ≤ c ∧ c ≤ 255)
theorem col3_of {G : List Int} (h : colB G = true) : col3 G := colB_iff h
theorem col3_inn {G : List Int} (h : col3 G) : (∀ n ∈ G, inI n) ∧ G.length ≤ 1048576 := by
  obtain ⟨a, b, c, rfl, h1, h2, h3⟩ := h
  refine ⟨fun n hn => ?_, by simp⟩
  simp at hn
  unfold inI
  rcases hn with rfl | rfl | rfl <;> omega
theorem ov3_col {c : List Int} {v : Int} {G : List Int} (hc : col3 c) (hv : 0 ≤ v ∧ v ≤ 1000) (hG : col3 G) : col3 (ov3 c v G) := by
  obtain ⟨p, q, r, rfl, h1, h2, h3⟩ := hc
  obtain ⟨x, y, z, rfl, k1, k2, k3⟩ := hG
  exact ⟨_, _, _, rfl, ovN_bd k1 h1 hv, ovN_bd k2 h2 hv, ovN_bd k3 h3 hv⟩
theorem aft_col {Z : List Ct} {O G : List Int} (hz : ctsB Z = true) (ho : ordC Z.length O = true) (hG : colB G = true) : ∀ k, k ≤ O.length → col3 (aftK Z O G k)
  | 0, _ => col3_of hG
  | k + 1, hk => by
    have h2 := ordC_at ho (k := k) (by omega)
    have h3 := ctB_bd (cts_one hz h2.2.1)
    unfold aftK
    rw [cts_getD h2.2.1]
    exact ov3_col (col3_of h3.2.2) h3.2.1 (aft_col hz ho hG k (by omega))
def aftC (Z : List Ct) (O G : List Int) : Int := if (ctsB Z && colB G) = true then code (ordC Z.length O) 7 else 1
def aftV (Z : List Ct) (O G : List Int) : List Int := if (ctsB Z && colB G) = true then (if ordC Z.length O = true then aftK Z O G O.length else []) else []
theorem aft_in (Z : List Ct) (O G : List Int) : (∀ n ∈ aftV Z O G, inI n) ∧ (aftV Z O G).length ≤ 1048576 := by
  have h : aftV Z O G = [] ∨ col3 (aftV Z O G) := by
    unfold aftV
    by_cases h : (ctsB Z && colB G) = true
    · rw [if_pos h]
      obtain ⟨h1, h2⟩ := Bool.and_eq_true_iff.1 h
      by_cases h3 : ordC Z.length O = true
      · rw [if_pos h3]; exact Or.inr (aft_col h1 h3 h2 _ (Nat.le_refl _))
      · rw [if_neg h3]; exact Or.inl rfl
    · rw [if_neg h]; exact Or.inl rfl
  rcases h with h | h
  · rw [h]; exact ⟨fun n hn => (by cases hn), by simp⟩
  · exact col3_inn h
/-- the model's copy of a row of three -/
theorem own3_any (v : Value) (x y z : Int) (w : World) (hv : IntsAt w v [x, y, z]) : Calls Tryz.prog 45 #[v] w (RowI [x, y, z] w) := by
  obtain ⟨i0, hi, hz0, hz1, hz2⟩ := info_parts infoI
  obtain ⟨g, o, uc, rfl, hg, k0, k1, k2⟩ := row3 hv
  have hk := Lib.hid (And.intro k0 (And.intro k1 k2))
  clear hv k0 k1 k2
  go_enter Tryz.func45, Tryz.ntmps45
  have hown := Lib.hid (rowI_start w)
  go_wp2_with (at_builtin; refine wpList_append_own _ rfl _ _ 26 rfl w.heap.size 2 i0 (.int .i64 0) 1 8 Tryz.underlying26 hi hz0 hz1 hz2 rfl (by decide) _ 0 [] rfl hown.out ⟨g, o, none⟩ 3 uc [.int .i64 x, .int .i64 y, .int .i64 z] rfl rfl ?c1 ?c2 ?c3 ?c4 ?c5 ?_)
  case c1 =>
    intro j u hu
    have hb : Below w.heap.size w (w.alloc (.cells #[] 2)) := (Below.refl _ _).alloc (Nat.le_refl _) _
    have hadd : (⟨g, o, none⟩ : Addr).add j = ⟨g, o + j, none⟩ := by unfold Addr.add; split <;> simp_all
    rw [hadd, hb.cell (p := ⟨g, o + j, none⟩) hg]
    match j, hu with
    | 0, hu => rw [← hu]; exact hk.out.1
    | 1, hu => rw [← hu]; exact hk.out.2.1
    | 2, hu => rw [← hu]; exact hk.out.2.2
  case c2 =>
    intro u hu
    simp at hu
    rcases hu with rfl | rfl | rfl <;> rfl
  case c3 => unfold maxLen; omega
  case c4 => omega
  case c5 => simp
  intro v9 w9 hown9 hgrow9 _
  have hB := Lib.hid (((Below.refl w.heap.size w).alloc (Nat.le_refl _) (.cells #[] 2)).grown hgrow9 (by simp) (fun j hj => by simp [Value.ownBlock] at hj; omega))
  have hown10 : Hid (w9.ownsRow w.heap.size 2 1 v9 ([x, y, z] : List Int).length (([x, y, z] : List Int).map encI)) := Lib.hid (by simpa [encI] using hown9)
  clear hown9 hgrow9
  go_wp2
  go_ret
  exact ⟨_, rfl, hown10.out, hB.out⟩
end Go.Proofs.YtgfhjcbmilaegaaGreatDoor
namespace Go.Proofs.YtgfhjcbmilaegaaGreatDoor
open Go.ChangeShapes Go.WideShapes Go.ChangeAt Go.RowKit Go.Deep
set_option linter.unusedVariables false
set_option maxRecDepth 1000000
set_option linter.unusedSimpArgs false
theorem grown_set (w : World) (a : Addr) (u : Value) : w.grownBy (w.setCell a u) (some a.block) :=
  ⟨rfl, rfl, rfl, by simp, fun k _ hk => Below.heap_setCell _ _ _ k (fun e => hk (by rw [e]))⟩
theorem lt_some {w : World} {b : Nat} {o : Obj} (h : w.heap[b]? = some o) : b < w.heap.size := (Array.getElem?_eq_some_iff.1 h).1
theorem grown_new {w w1 : World} {r : Option Nat} (h : w.grownBy w1 r) (a : Addr) (ha : w.heap.size ≤ a.block) (u : Value) : w.grownBy (w1.setCell a u) r :=
  ⟨h.os, h.tape, h.output, by have := h.size; simpa using this, fun k hk hr => (Below.heap_setCell _ _ _ k (by omega)).trans (h.block k hk hr)⟩
theorem grown_alloc {w w1 : World} {r : Option Nat} (h : w.grownBy w1 r) (o : Obj) : w.grownBy (w1.alloc o) r := gtrans h (below_grown' ((Below.refl _ _).alloc (Nat.le_refl _) _) r)
theorem grown_drew {w w1 : World} {r : Option Nat} (h : w.grownBy w1 r) (n : Nat) : w.grownBy (w1.drewN n) r := ⟨h.os, h.tape, h.output, h.size, h.block⟩
theorem src_set1 {w : World} {b n : Nat} {v : Value} (h : SrcAt w b v n) (a : Addr) (ha : a.block ≠ b) (u : Value) : SrcAt (w.setCell a u) b v n := by
  obtain ⟨h0, c0, c1, ⟨s, c2⟩, z1, z2⟩ := h
  have e : (w.setCell a u).heap[b]? = w.heap[b]? := Below.heap_setCell _ _ _ b (fun h => ha h.symm)
  refine ⟨by simpa using h0, (cell_block e).trans c0, (cell_block e).trans c1, ⟨s, (cell_block e).trans c2⟩, ?_, ?_⟩
  · rw [← z1]; simp only [World.frozen?, e]
  · rw [← z2]; simp only [World.frozen?, e]
theorem src_alloc {w : World} {b n : Nat} {v : Value} (h : SrcAt w b v n) (o : Obj) : SrcAt (w.alloc o) b v n := h.below ((Below.refl _ _).alloc (Nat.le_refl _) _)
theorem u8_set1 {B : Nat} {w : World} {v : Value} {Z : List Int} (h : U8Old B w v Z) (a : Addr) (ha : B ≤ a.block) (u : Value) : U8Old B (w.setCell a u) v Z := h.other (grown_set w a u) ha
theorem u8_alloc {B : Nat} {w : World} {v : Value} {Z : List Int} (h : U8Old B w v Z) (o : Obj) : U8Old B (w.alloc o) v Z := h.below ((Below.refl _ _).alloc (Nat.le_refl _) _)
theorem set_at {w : World} {b : Nat} {cs : Array Value} {t : TypeId} (h : w.heap[b]? = some (.cells cs t (0, 0))) (i : Nat) (v : Value) (cs' : Array Value) (hc : cs.setIfInBounds i v = cs') : (w.setCell ⟨b, i, none⟩ v).heap[b]? = some (.cells cs' t (0, 0)) := by
  obtain ⟨hlt, hk⟩ := Array.getElem?_eq_some_iff.1 h
  show (w.heap.modify b _)[b]? = _
  rw [Array.getElem?_eq_getElem (by rw [Array.size_modify]; exact hlt), Array.getElem_modify_self, hk, ← hc]
  simp [Array.setIfInBounds]
theorem src_same {w w' : World} {b n : Nat} {v : Value} (h : SrcAt w b v n) (e : w'.heap[b]? = w.heap[b]?) : SrcAt w' b v n := by
  obtain ⟨h0, c0, c1, ⟨s, c2⟩, z1, z2⟩ := h
  have hs : b < w'.heap.size := by
    rw [Array.getElem?_eq_getElem h0] at e
    exact lt_some e
  refine ⟨hs, (cell_block e).trans c0, (cell_block e).trans c1, ⟨s, (cell_block e).trans c2⟩, ?_, ?_⟩
  · rw [← z1]; simp only [World.frozen?, e]
  · rw [← z2]; simp only [World.frozen?, e]
theorem own_keptG {w w' : World} {B e size n : Nat} {v : Value} {xs : List Value} {b : Nat} (h : w.ownsRow B e size v n xs) (hg : w.grownBy w' (some b)) (hb : b < B) : w'.ownsRow B e size v n xs :=
  World.ownsRow.kept h hg (Or.inr fun e => by have := World.ownsRow.own_ge h b e; omega)
theorem own_alloc8 {w : World} {B e size n : Nat} {v : Value} {xs : List Value} (h : w.ownsRow B e size v n xs) (o : Obj) : (w.alloc o).ownsRow B e size v n xs := h.alloc o
theorem own_set8 {w : World} {B e size n : Nat} {v : Value} {xs : List Value} (h : w.ownsRow B e size v n xs) (a : Addr) (ha : a.block < B) (u : Value) : (w.setCell a u).ownsRow B e size v n xs :=
  World.ownsRow.kept h (grown_set w a u) (Or.inr fun e => by have := World.ownsRow.own_ge h a.block e; omega)
/-- what a drawn colour leaves -/
def ColRet (b B : Nat) (v : Value) (Z : List Int) (n : Nat) (w : World) (e : Ending) (w' : World) : Prop :=
  ∃ (u : Value) (p q r : Int), e = .returned u ∧ (0 ≤ p ∧ p ≤ 255) ∧ (0 ≤ q ∧ q ≤ 255) ∧ (0 ≤ r ∧ r ≤ 255) ∧ w'.ownsRow w.heap.size 2 1 u 3 ([p, q, r].map encI) ∧ SrcAt w' b v n ∧ U8Old B w' v Z ∧ w.grownBy w' (some b)
set_option maxHeartbeats 1600000 in
theorem l13DrawColour_any (b B n : Nat) (v : Value) (Z : List Int) (w : World) (hB : B ≤ b) (hn : n ≤ 80) (hZ : Z.length ≤ 1048576) (hs : SrcAt w b v n) (hu : U8Old B w v Z) :
    Calls Tryz.prog 23 #[.pointer (some ⟨b, 0, none⟩)] w (ColRet b B v Z (n + 6) w) := by
  have q1 := Lib.hid (pick_any 256 (by decide) (by decide) b B n v Z w hB (by omega) hZ hs hu)
  have q2 := Lib.hid (fun n W (hn : n ≤ 90) => pick_any 256 (by decide) (by decide) b B n v Z W hB hn hZ)
  clear hs hu
  go_enter Tryz.func23, Tryz.ntmps23
  go_wp2_with fail
  refine q1.out.mono ?_
  rintro e w1 ⟨r1, rfl, a1, b1, s1, u1, g1⟩
  have p2 := Lib.hid (q2.out (n + 2) w1 (by omega) s1 u1)
  have G1 := Lib.hid g1
  clear s1 u1 g1 q1
  go_wp2_with fail
  refine p2.out.mono ?_
  rintro e w2 ⟨r2, rfl, a2, b2, s2, u2, g2⟩
  have p3 := Lib.hid (q2.out (n + 2 + 2) w2 (by omega) s2 u2)
  have G2 := Lib.hid (gtrans G1.out g2)
  clear s2 u2 g2 p2 G1 q2
  go_wp2_with fail
  refine p3.out.mono ?_
  rintro e w3 ⟨r3, rfl, a3, b3, s3, u3, g3⟩
  have hS := Lib.hid (src_alloc s3 (.cells #[.int .i64 r1, .int .i64 r2, .int .i64 r3] 2))
  have hU := Lib.hid (u8_alloc u3 (.cells #[.int .i64 r1, .int .i64 r2, .int .i64 r3] 2))
  have hG := Lib.hid (grown_alloc (gtrans G2.out g3) (.cells #[.int .i64 r1, .int .i64 r2, .int .i64 r3] 2))
  have hz := (gtrans G2.out g3).size
  have hO : Hid ((w3.alloc (.cells #[.int .i64 r1, .int .i64 r2, .int .i64 r3] 2)).ownsRow w.heap.size 2 1 (.slice (some ⟨w3.heap.size, 0, none⟩) 3 3) 3 ([r1, r2, r3].map encI)) :=
    Lib.hid ⟨rfl, Or.inr ⟨w3.heap.size, 3, #[.int .i64 r1, .int .i64 r2, .int .i64 r3], rfl, hz, heap_alloc_new _ _, Nat.le_refl 3, by unfold maxLen; omega, rfl, rfl⟩⟩
  clear s3 u3 g3 G2 p3
  go_wp2
  go_ret
  exact ⟨_, r1, r2, r3, rfl, by omega, by omega, by omega, hO.out, hS.out, hU.out, hG.out⟩
/-- what a drawn coat leaves -/
def CtDr (s : ByteArray) (b B : Nat) (v : Value) (Z : List Int) (n : Nat) (w : World) (e : Ending) (w' : World) : Prop :=
  ∃ (u : Value) (x y p q r : Int), e = .returned (.agg #[.string s, .int .i64 x, .int .i64 y, u]) ∧ (0 ≤ x ∧ x ≤ 19) ∧ (0 ≤ y ∧ y ≤ 950) ∧ (0 ≤ p ∧ p ≤ 255) ∧ (0 ≤ q ∧ q ≤ 255) ∧ (0 ≤ r ∧ r ≤ 255) ∧ w'.ownsRow w.heap.size 2 1 u 3 ([p, q, r].map encI) ∧ SrcAt w' b v n ∧ U8Old B w' v Z ∧ w.grownBy w' (some b)
set_option maxHeartbeats 3200000 in
theorem l13DrawOne_any (s : ByteArray) (b B n : Nat) (v : Value) (Z : List Int) (w : World) (hB : B ≤ b) (hn : n ≤ 70) (hZ : Z.length ≤ 1048576) (hs : SrcAt w b v n) (hu : U8Old B w v Z) :
    Calls Tryz.prog 48 #[.pointer (some ⟨b, 0, none⟩), .string s] w (CtDr s b B v Z (n + 8) w) := by
  have hA : Below w.heap.size w (w.alloc (.cells #[.string ⟨#[]⟩, .int .i64 0, .int .i64 0, .slice none 0 0] 36)) := (Below.refl _ _).alloc (Nat.le_refl _) _
  have q1 := Lib.hid (pickS_any 20 (by decide) (by decide) b B n v Z (w.alloc (.cells #[.string ⟨#[]⟩, .int .i64 0, .int .i64 0, .slice none 0 0] 36)) hB (by omega) hZ (hs.below hA) (hu.below hA))
  have q2 := Lib.hid (fun n W (hn : n ≤ 90) => pickS_any 20 (by decide) (by decide) b B n v Z W hB hn hZ)
  have q3 := Lib.hid (fun n W (hn : n ≤ 80) => l13DrawColour_any b B n v Z W hB hn hZ)
  have hbw : b < w.heap.size := hs.1
  have hR0 := heap_alloc_new w (.cells #[.string ⟨#[]⟩, .int .i64 0, .int .i64 0, .slice none 0 0] 36)
  clear hs hu hA
  go_enter Tryz.func48, Tryz.ntmps48
  go_wp2_with fail
  refine q1.out.mono ?_
  rintro e w1 ⟨r1, rfl, a1, b1, s1, u1, g1⟩
  have p2 := Lib.hid (q2.out (n + 1) w1 (by omega) s1 u1)
  have G1 := Lib.hid (gtrans (below_grown' ((Below.refl _ _).alloc (Nat.le_refl _) _) _) g1)
  have hR1 := (g1.block w.heap.size (by simp) (by intro h; injection h; omega)).trans hR0
  have z1 : w.heap.size < w1.heap.size := lt_some hR1
  clear s1 u1 g1 q1 hR0 q2
  go_wp2_with fail
  refine p2.out.mono ?_
  rintro e w2 ⟨r2, rfl, a2, b2, s2, u2, g2⟩
  have G2 := Lib.hid (grown_alloc (gtrans G1.out g2) (.cells #[.string s, .int .i64 r1, .int .i64 (50 * r2), .slice none 0 0] 36))
  have hR2 := (g2.block w.heap.size z1 (by intro h; injection h; omega)).trans hR1
  have z2 : w.heap.size < w2.heap.size := lt_some hR2
  have hX3 := heap_alloc_new w2 (.cells #[.string s, .int .i64 r1, .int .i64 (50 * r2), .slice none 0 0] 36)
  have hR3 := (Below.heap_alloc w2 (.cells #[.string s, .int .i64 r1, .int .i64 (50 * r2), .slice none 0 0] 36) _ z2).trans hR2
  have s3 := src_alloc s2 (.cells #[.string s, .int .i64 r1, .int .i64 (50 * r2), .slice none 0 0] 36)
  have u3 := u8_alloc u2 (.cells #[.string s, .int .i64 r1, .int .i64 (50 * r2), .slice none 0 0] 36)
  have zX : w2.heap.size < (w2.alloc (.cells #[.string s, .int .i64 r1, .int .i64 (50 * r2), .slice none 0 0] 36)).heap.size := by simp
  clear s2 u2 g2 p2 G1 hR1 hR2
  go_wp2_with fail
  generalize w2.alloc (.cells #[.string s, .int .i64 r1, .int .i64 (50 * r2), .slice none 0 0] 36) = W3 at hX3 hR3 s3 u3 zX G2 ⊢
  have hWs : w.heap.size ≤ W3.heap.size := by omega
  refine (q3.out (n + 1 + 1) W3 (by omega) s3 u3).mono ?_
  rintro e w4 ⟨u, p, q, r, rfl, ba, bb, bc, o4, s4, u4, g4⟩
  have hX4 := (g4.block w2.heap.size zX (by intro h; injection h; omega)).trans hX3
  have hR4 := (g4.block w.heap.size (by omega) (by intro h; injection h; omega)).trans hR3
  have hne : w.heap.size ≠ w2.heap.size := by omega
  have hne' : w2.heap.size ≠ w.heap.size := by omega
  obtain ⟨ua, uc, rfl⟩ := ownShape o4
  have q4 := Lib.hid (And.intro s4 (And.intro u4 (And.intro (gtrans G2.out g4) o4)))
  have wX : w2.heap.size < W3.heap.size := zX
  clear hX3 hR3 s3 u3 s4 u4 g4 G2 q3 o4
  have cX0 := cellB hX4 0 _ rfl
  have fX0 := freeB hX4 0
  have cX1 := cellB hX4 1 _ rfl
  have fX1 := freeB hX4 1
  have cX2 := cellB hX4 2 _ rfl
  have fX2 := freeB hX4 2
  have cX3 := cellB hX4 3 _ rfl
  have fX3 := freeB hX4 3
  have cR0 := cellB hR4 0 _ rfl
  have fR0 := freeB hR4 0
  have cR1 := cellB hR4 1 _ rfl
  have fR1 := freeB hR4 1
  have cR2 := cellB hR4 2 _ rfl
  have fR2 := freeB hR4 2
  have cR3 := cellB hR4 3 _ rfl
  have fR3 := freeB hR4 3
  clear hX4 hR4
  go_wp2
  refine bodyPost_ret (v := .agg #[.string s, .int .i64 r1, .int .i64 (50 * r2), .slice ua 3 uc]) (by simp [results, Tryz.results48, go_sem, cX0, cX1, cX2, cX3, cR0, cR1, cR2, cR3, hne, hne']) rfl ⟨_, r1, 50 * r2, p, q, r, rfl, by omega, by omega, by omega, by omega, by omega, ?_, ?_, ?_, ?_⟩
  · refine own_low (B := W3.heap.size) ?_ hWs
    repeat (first | (with_reducible exact q4.out.2.2.2) | with_reducible refine own_set8 ?_ _ (by first | (simp; done) | (simp; omega) | omega) _ | with_reducible refine own_alloc8 ?_ _)
  · repeat (first | (with_reducible exact q4.out.1) | with_reducible refine src_set1 ?_ _ (by first | (simp; done) | (simp; omega) | omega) _ | with_reducible refine src_alloc ?_ _)
  · repeat (first | (with_reducible exact q4.out.2.1) | with_reducible refine u8_set1 ?_ _ (by first | (simp; done) | (simp; omega) | omega) _ | with_reducible refine u8_alloc ?_ _)
  · repeat (first | (with_reducible exact q4.out.2.2.1) | with_reducible refine grown_new ?_ _ (by first | (simp; done) | (simp; omega) | omega) _ | with_reducible refine grown_alloc ?_ _)
end Go.Proofs.YtgfhjcbmilaegaaGreatDoor
namespace Go.Proofs.YtgfhjcbmilaegaaGreatDoor
open Go.ChangeShapes Go.WideShapes Go.ChangeAt Go.RowKit Go.Deep
set_option linter.unusedVariables false
set_option maxRecDepth 1000000
set_option linter.unusedSimpArgs false
theorem bytes_listC (s : ByteArray) : s.toList = s.data.toList := by
  obtain ⟨a⟩ := s
  obtain ⟨l⟩ := a
  exact ByteArray.toList_mk l
/-- the names that are drawn from -/
def NM : List ByteArray := [⟨#[97, 109, 98, 101, 114]⟩, ⟨#[98, 114, 111, 119, 110]⟩, ⟨#[99, 108, 101, 97, 114]⟩, ⟨#[114, 101, 100]⟩]
def ltD (a b : ByteArray) : Bool := Op.bytesLess a.data.toList b.data.toList
theorem nm_rise : NM.Pairwise (fun a b => ltD a b = true) := by
  unfold NM
  refine List.Pairwise.cons ?_ (List.Pairwise.cons ?_ (List.Pairwise.cons ?_ (List.Pairwise.cons ?_ List.Pairwise.nil)))
  all_goals
    intro a ha
    simp only [List.mem_cons, List.mem_nil_iff, or_false] at ha
  · rcases ha with rfl | rfl | rfl <;> decide
  · rcases ha with rfl | rfl <;> decide
  · rcases ha with rfl; decide
theorem nm_name : ∀ s ∈ NM, nameL s.data.toList = true ∧ s.size ≤ 5 := by
  intro s hs
  unfold NM at hs
  simp only [List.mem_cons, List.mem_nil_iff, or_false] at hs
  rcases hs with rfl | rfl | rfl | rfl <;> exact ⟨by decide, by decide⟩
theorem ctsB_of {Z : List Ct} (h1 : ∀ x ∈ Z, ctB x = true) (h2 : (Z.map Ct.id).Pairwise (fun a b => ltD a b = true)) (h3 : Z.length ≤ 10) : ctsB Z = true := by
  have key : ∀ k, k ≤ Z.length → ct_okK Z k = true := by
    intro k
    induction k with
    | zero => intro _; rfl
    | succ k ih =>
      intro hk
      refine ct_okK_yes (ih (by omega)) ?_
      have hkl : k < Z.length := by omega
      have hv := h1 _ (List.getElem_mem hkl)
      cases k with
      | zero => exact ct_step_first hkl rfl hv
      | succ q =>
        rw [ct_step_next hkl rfl rfl hv, bytes_listC, bytes_listC]
        have := List.pairwise_iff_getElem.1 h2 q (q + 1) (by simp; omega) (by simp; omega) (by omega)
        simpa [ltD] using this
  unfold ctsB
  rw [key _ (Nat.le_refl _)]
  simpa using h3
/-- what is known of the first k draws -/
def GoodP (k : Nat) (P : List (Ct × Value)) : Prop :=
  P.length ≤ k ∧ (P.map fun p => p.1.id).Sublist (NM.take k) ∧ ∀ p ∈ P, ctB p.1 = true ∧ p.1.col.length = 3
theorem GoodP.nil : GoodP 0 [] := ⟨Nat.le_refl _, List.Sublist.refl _, fun p hp => by cases hp⟩
theorem GoodP.skip {k : Nat} {P : List (Ct × Value)} (h : GoodP k P) : GoodP (k + 1) P :=
  ⟨Nat.le_succ_of_le h.1, h.2.1.trans (List.take_sublist_take_left (Nat.le_succ k)), h.2.2⟩
theorem GoodP.snoc {k : Nat} {P : List (Ct × Value)} (h : GoodP k P) (hk : k < NM.length) {x : Ct} {u : Value} (hid : x.id = NM[k]) (hx : (0 ≤ x.days ∧ x.days ≤ 19) ∧ (0 ≤ x.cover ∧ x.cover ≤ 950)) {p q r : Int} (hc : x.col = [p, q, r]) (hp : 0 ≤ p ∧ p ≤ 255) (hq : 0 ≤ q ∧ q ≤ 255) (hr : 0 ≤ r ∧ r ≤ 255) : GoodP (k + 1) (P ++ [(x, u)]) := by
  refine ⟨by rw [List.length_append]; simpa using h.1, ?_, ?_⟩
  · rw [List.map_append, List.take_succ_eq_append_getElem hk]
    refine h.2.1.append ?_
    simp [hid]
  · intro y hy
    rcases List.mem_append.1 hy with hy | hy
    · exact h.2.2 y hy
    · simp only [List.mem_cons, List.mem_nil_iff, or_false] at hy
      subst hy
      refine ⟨?_, by simp [hc]⟩
      show ctB x = true
      unfold ctB
      rw [hid, (nm_name _ (List.getElem_mem hk)).1, inB_iff.2 (by omega), inB_iff.2 (by omega), hc]
      unfold colB
      rw [allI_iff.2 (by intro n hn; simp only [List.mem_cons, List.mem_nil_iff, or_false] at hn; rcases hn with rfl | rfl | rfl <;> omega)]
      rfl
theorem GoodP.good {P : List (Ct × Value)} (h : GoodP 4 P) : ctsB (P.map Prod.fst) = true ∧ (P.map Prod.fst).length ≤ 4 := by
  refine ⟨ctsB_of ?_ ?_ (by rw [List.length_map]; have := h.1; omega), by rw [List.length_map]; exact h.1⟩
  · intro x hx
    obtain ⟨p, hp, rfl⟩ := List.mem_map.1 hx
    exact (h.2.2 p hp).1
  · have := List.Pairwise.sublist h.2.1 (nm_rise.sublist (List.take_sublist _ _))
    rw [List.map_map]
    exact this
/-- all cells of a list of coats -/
def dc_flat (P : List (Ct × Value)) : List Value := P.flatMap fun p => p.1.cells p.2
theorem dc_cellsN (p : Ct × Value) : (p.1.cells p.2).length = 4 := rfl
theorem dc_flat_get : ∀ (P : List (Ct × Value)) (i : Nat) (hi : i < P.length) (j : Nat), j < 4 → (dc_flat P)[i * 4 + j]? = (P[i].1.cells P[i].2)[j]?
  | x :: P, 0, _, j, hj => by
    unfold dc_flat
    rw [List.flatMap_cons, Nat.zero_mul, Nat.zero_add, List.getElem?_append_left (by rw [dc_cellsN]; exact hj)]; rfl
  | x :: P, i + 1, hi, j, hj => by
    have := dc_flat_get P i (by simpa using hi) j hj
    unfold dc_flat at this ⊢
    rw [List.flatMap_cons, List.getElem?_append_right (by rw [dc_cellsN]; omega), dc_cellsN, show (i + 1) * 4 + j - 4 = i * 4 + j by omega, this]; rfl
theorem dc_flat_snoc (P : List (Ct × Value)) (x : Ct) (u : Value) : dc_flat (P ++ [(x, u)]) = dc_flat P ++ x.cells u := by
  unfold dc_flat; rw [List.flatMap_append]; simp
/-- rows of other types lie in other blocks -/
theorem own_types {w : World} {B B' e e' s s' n n' : Nat} {v v' : Value} {xs xs' : List Value} (h : w.ownsRow B e s v n xs) (h' : w.ownsRow B' e' s' v' n' xs') (ne : e ≠ e') : v.ownBlock = none ∨ v.ownBlock ≠ v'.ownBlock := by
  rcases h.2 with ⟨rfl, _⟩ | ⟨g, cap, cur, rfl, hg, hh, _⟩
  · exact Or.inl rfl
  · rcases h'.2 with ⟨rfl, _⟩ | ⟨g', cap', cur', rfl, hg', hh', _⟩
    · right; intro e; cases e
    · right
      intro e
      have e1 : g = g' := by injection e
      subst e1
      rw [hh] at hh'
      injection hh' with hh'
      injection hh' with _ e2
      exact ne e2
/-- what a drawn list leaves -/
structure DrC (b B n : Nat) (u v : Value) (Z : List Int) (P : List (Ct × Value)) (w0 w : World) : Prop where
  own : w.ownsRow w0.heap.size 36 4 u P.length (dc_flat P)
  rows : ∀ p ∈ P, w.ownsRow w0.heap.size 2 1 p.2 p.1.col.length (p.1.col.map encI)
  src : SrcAt w b v n
  u8 : U8Old B w v Z
  grown : w0.grownBy w (some b)
theorem DrC.after {b B n m : Nat} {u v : Value} {Z : List Int} {P : List (Ct × Value)} {w0 w w' : World} (h : DrC b B n u v Z P w0 w) (hb : b < w0.heap.size) (s : SrcAt w' b v m) (u' : U8Old B w' v Z) (g : w.grownBy w' (some b)) : DrC b B m u v Z P w0 w' :=
  ⟨own_keptG h.own g hb, fun p hp => own_keptG (h.rows p hp) g hb, s, u', gtrans h.grown g⟩
theorem DrC.append {b B n : Nat} {u u' v uv : Value} {Z : List Int} {P : List (Ct × Value)} {w0 w w' : World} {o : Obj} (x : Ct) (h : DrC b B n u v Z P w0 w) (hB : B ≤ b) (hb : b < w0.heap.size) (hr : w.ownsRow w0.heap.size 2 1 uv x.col.length (x.col.map encI))
    (h1 : w'.ownsRow w0.heap.size 36 4 u' (P.length + 1) (dc_flat P ++ x.cells uv)) (h2 : (w.alloc o).grownBy w' u.ownBlock) : DrC b B n u' v Z (P ++ [(x, uv)]) w0 w' := by
  have hge : ∀ j, u.ownBlock = some j → w0.heap.size ≤ j := fun j e => World.ownsRow.own_ge h.own j e
  have hz : w0.heap.size ≤ w.heap.size := h.grown.size
  have hne : u.ownBlock ≠ some b := fun e => by have := hge b e; omega
  have hA : Below w.heap.size w (w.alloc o) := (Below.refl _ _).alloc (Nat.le_refl _) _
  have kb : w'.heap[b]? = w.heap[b]? := (h2.block b (by have := h.src.1; simp; omega) (fun e => hne e.symm)).trans (Below.heap_alloc w o b (by have := h.src.1; omega))
  have keep : ∀ p : Ct × Value, w.ownsRow w0.heap.size 2 1 p.2 p.1.col.length (p.1.col.map encI) → w'.ownsRow w0.heap.size 2 1 p.2 p.1.col.length (p.1.col.map encI) := fun p hp =>
    World.ownsRow.kept (own_alloc8 hp o) h2 (own_types hp h.own (by decide))
  refine ⟨?_, ?_, src_same h.src kb, ?_, ?_⟩
  · rw [dc_flat_snoc, List.length_append]
    exact h1
  · intro p hp
    rcases List.mem_append.1 hp with hp | hp
    · exact keep p (h.rows p hp)
    · simp only [List.mem_cons, List.mem_nil_iff, or_false] at hp
      subst hp
      exact keep (x, uv) hr
  · obtain ⟨a, cap, e1, e2, e3, e4⟩ := h.u8
    refine ⟨a, cap, e1, e2, e3, ?_⟩
    rcases e4 with e4 | ⟨g, q, e, hg0, hg, hc⟩
    · exact Or.inl e4
    · have kg : w'.heap[g]? = w.heap[g]? := (h2.block g (by simp; omega) (fun e => by have := hge g e.symm; omega)).trans (Below.heap_alloc w o g (by omega))
      exact Or.inr ⟨g, q, e, hg0, by have := h2.size; simp at this; omega, fun j y => (cell_block kg).trans (hc j y)⟩
  · have hA' := gtrans h.grown (below_grown' hA (some b))
    refine ⟨h2.os.trans hA'.os, h2.tape.trans hA'.tape, h2.output.trans hA'.output, Nat.le_trans hA'.size h2.size, fun j hj hr => ?_⟩
    exact (h2.block j (Nat.lt_of_lt_of_le hj hA'.size) (fun e => by have := hge j e.symm; omega)).trans (hA'.block j hj hr)
theorem DrC.low {b B n : Nat} {u v : Value} {Z : List Int} {P : List (Ct × Value)} {w w0 wr : World} (h : DrC b B n u v Z P w0 wr) (g : w.grownBy w0 (some b)) : DrC b B n u v Z P w wr :=
  ⟨own_low h.own g.size, fun p hp => own_low (h.rows p hp) g.size, h.src, h.u8, gtrans g h.grown⟩
theorem DrC.cts {b B n : Nat} {u v : Value} {Z : List Int} {P : List (Ct × Value)} {w0 w : World} (h : DrC b B n u v Z P w0 w) (hg : GoodP 4 P) : CtsAt w u (P.map Prod.fst) := by
  have hcol : ∀ p ∈ P, p.1.id.size ≤ maxLen ∧ p.1.col.length ≤ maxLen ∧ ∀ n ∈ p.1.col, inI n := by
    intro p hp
    have h1 := (hg.2.2 p hp).1
    have h2 : p.1.id ∈ NM := (List.take_sublist _ _).subset (hg.2.1.subset (List.mem_map_of_mem hp))
    have h3 := (nm_name _ h2).2
    have h4 := (hg.2.2 p hp).2
    refine ⟨by unfold maxLen; omega, by unfold maxLen; omega, (col3_inn (col3_of ((ctB_bd h1).2.2))).1⟩
  rcases h.own.2 with ⟨rfl, hz⟩ | ⟨g, cap, cur, rfl, hg0, hh, hnn, hcp, hs, hx⟩
  · obtain rfl : P = [] := List.length_eq_zero_iff.1 hz
    exact ⟨none, 0, rfl, Nat.le_refl 0, fun x hx => (by cases hx), Or.inl rfl⟩
  · refine ⟨_, cap, by rw [List.length_map], by rw [List.length_map]; exact hnn, fun x hx => ?_, Or.inr ⟨g, 0, rfl, lt_some hh, fun i hi => ?_⟩⟩
    · obtain ⟨p, hp, rfl⟩ := List.mem_map.1 hx
      exact ⟨(hcol p hp).1, (hcol p hp).2.1⟩
    · have hi' : i < P.length := by rw [List.length_map] at hi; exact hi
      refine ⟨P[i].2, fun j y hj => ?_, ?_⟩
      · have hj4 : j < 4 := by have := (List.getElem?_eq_some_iff.1 hj).1; rwa [show (((P.map Prod.fst)[i]).cells P[i].2).length = 4 from rfl] at this
        rw [Nat.zero_add]
        refine ((World.ownsRow.cellAt h.own (i * 4 + j) (by omega)).trans (dc_flat_get P i hi' j hj4)).trans ?_
        simpa using hj
      · have := ints_own (h.rows P[i] (List.getElem_mem hi')) (hcol _ (List.getElem_mem hi')).2.2
        simpa using this
/-- what the model's draw of a list leaves -/
def CtsRet (b B : Nat) (v : Value) (Z : List Int) (n : Nat) (w : World) (e : Ending) (w' : World) : Prop :=
  ∃ (u : Value) (P : List (Ct × Value)) (m : Nat), e = .returned u ∧ GoodP 4 P ∧ m ≤ n ∧ DrC b B m u v Z P w w'
set_option maxHeartbeats 3200000 in
theorem l13Draw_any (b B n : Nat) (v : Value) (Z : List Int) (w : World) (hB : B ≤ b) (hn : n ≤ 20) (hZ : Z.length ≤ 1048576) (hs : SrcAt w b v n) (hu : U8Old B w v Z) :
    Calls Tryz.prog 22 #[.pointer (some ⟨b, 0, none⟩)] w (CtsRet b B v Z (n + 36) w) := by
  obtain ⟨i0, hi, hz0, hz1, hz2⟩ := info_parts infoCt
  have hbw : b < w.heap.size := hs.1
  have hN0 : (w.alloc (.cells #[.string ⟨#[97, 109, 98, 101, 114]⟩, .string ⟨#[98, 114, 111, 119, 110]⟩, .string ⟨#[99, 108, 101, 97, 114]⟩, .string ⟨#[114, 101, 100]⟩] 9)).heap[w.heap.size]? = some (.cells #[.string ⟨#[97, 109, 98, 101, 114]⟩, .string ⟨#[98, 114, 111, 119, 110]⟩, .string ⟨#[99, 108, 101, 97, 114]⟩, .string ⟨#[114, 101, 100]⟩] 9 (0, 0)) := heap_alloc_new _ _
  obtain ⟨w0, hw0⟩ : ∃ w0, w0 = w.alloc (.cells #[.string ⟨#[97, 109, 98, 101, 114]⟩, .string ⟨#[98, 114, 111, 119, 110]⟩, .string ⟨#[99, 108, 101, 97, 114]⟩, .string ⟨#[114, 101, 100]⟩] 9) := ⟨_, rfl⟩
  have hz : w0.heap.size = w.heap.size + 1 := by rw [hw0]; simp
  have hG0 : Hid (w.grownBy w0 (some b)) := Lib.hid (by rw [hw0]; exact below_grown' ((Below.refl _ _).alloc (Nat.le_refl _) _) _)
  have hs0 := hs.below (show Below w.heap.size w w0 by rw [hw0]; exact (Below.refl _ _).alloc (Nat.le_refl _) _)
  have hu0 := hu.below (show Below w.heap.size w w0 by rw [hw0]; exact (Below.refl _ _).alloc (Nat.le_refl _) _)
  have hN1 : Hid (∀ W, w0.grownBy W (some b) → ∀ k (hk : k < NM.length), W.cell? ⟨w.heap.size, k, none⟩ = some (.string NM[k])) := Lib.hid fun W hW k hk => by
    rw [← hw0] at hN0
    have := (hW.block w.heap.size (by omega) (by intro h; injection h; omega)).trans hN0
    match k, hk with
    | 0, _ => exact cellB this 0 _ rfl
    | 1, _ => exact cellB this 1 _ rfl
    | 2, _ => exact cellB this 2 _ rfl
    | 3, _ => exact cellB this 3 _ rfl
  have hD0 : Hid (DrC b B n (.slice (some ⟨w0.heap.size, 0, none⟩) 0 0) v Z [] w0 (w0.alloc (.cells #[] 36))) := Lib.hid
    ⟨⟨rfl, Or.inr ⟨w0.heap.size, 0, #[], rfl, Nat.le_refl _, heap_alloc_new _ _, Nat.le_refl 0, by unfold maxLen; omega, rfl, rfl⟩⟩, fun p hp => (by cases hp), src_alloc hs0 _, u8_alloc hu0 _, below_grown' ((Below.refl _ _).alloc (Nat.le_refl _) _) _⟩
  clear hs hu hs0 hu0 hN0
  go_enter Tryz.func22, Tryz.ntmps22
  go_wp2
  rw [← hw0, ← hz]
  have hG1 := Lib.hid (show w.grownBy w0 (some b) from hG0.out)
  have hzle : w.heap.size < w0.heap.size := by omega
  have hbw0 : b < w0.heap.size := by omega
  clear hw0 hz hG0
  have hNl : NM.length = 4 := rfl
  go_loopw [4, 5] (fun u i wr => ∃ (k : Nat) (P : List (Ct × Value)) (m : Nat), k ≤ 4 ∧ i = .int .i64 k ∧ m ≤ n + 9 * k ∧ Hid (GoodP k P) ∧ Hid (DrC b B m u v Z P w0 wr)) (fun _ i _ => 4 - (intOf i).toNat)
  case atStart => exact ⟨0, [], n, by omega, rfl, by omega, Lib.hid GoodP.nil, hD0⟩
  case round =>
    obtain ⟨k, P, m, hk, rfl, hm, hP, hD⟩ := hrel
    by_cases hlt : k < 4
    · have hkN : k < NM.length := by omega
      have q1 := Lib.hid (pickS_any 3 (by decide) (by decide) b B m v Z wr hB (by omega) hZ hD.out.src hD.out.u8)
      have hlt4 : (k : Int) < 4 := by omega
      go_wp2_with fail
      refine q1.out.mono ?_
      rintro e w1 ⟨r1, rfl, a1, b1, s1, u1, g1⟩
      have D1 := Lib.hid (hD.out.after hbw0 s1 u1 g1)
      clear s1 u1 g1 q1 hD
      by_cases hr : 0 < r1
      · have hnm := hN1.out w1 D1.out.grown k hkN
        obtain ⟨s, hs⟩ : ∃ s, s = NM[k] := ⟨_, rfl⟩
        rw [← hs] at hnm
        replace hs := Lib.hid hs
        have cO := Lib.hid (l13DrawOne_any s b B (m + 1) v Z w1 hB (by omega) hZ D1.out.src D1.out.u8)
        go_wp2_with fail
        refine cO.out.mono ?_
        rintro e w2 ⟨uv, x, y, p, q, r, rfl, hx, hy, hp, hq, hr3, o2, s2, u2, g2⟩
        have D2 := Lib.hid (D1.out.after hbw0 s2 u2 g2)
        have O2 := Lib.hid (own_low o2 D1.out.grown.size)
        have P2 := Lib.hid (GoodP.snoc (x := ⟨s, x, y, [p, q, r]⟩) (u := uv) hP.out hkN hs.out ⟨hx, hy⟩ rfl hp hq hr3)
        have hPl := hP.out.1
        obtain ⟨ua, uc, rfl⟩ := ownShape o2
        clear o2 s2 u2 g2 cO hnm D1 hs hx hy hp hq hr3
        go_wp2_with (at_builtin; refine wpList_append_own _ rfl _ _ 24 rfl w0.heap.size 36 i0 _ 4 56 Tryz.underlying24 hi hz0 hz1 hz2 rfl (by decide) _ _ _ rfl (World.ownsRow.alloc D2.out.own _) ⟨w2.heap.size, 0, none⟩ 1 1 [.string s, .int .i64 x, .int .i64 y, .slice ua 3 uc] rfl rfl ?c1A ?c2A ?c3A ?c4A ?c5A ?_)
        case c1A =>
          intro j u hj
          match j, hj with
          | 0, hj => simp at hj; subst hj; simp [Addr.add]
          | 1, hj => simp at hj; subst hj; simp [Addr.add]
          | 2, hj => simp at hj; subst hj; simp [Addr.add]
          | 3, hj => simp at hj; subst hj; simp [Addr.add]
        case c2A => intro u hu; simp at hu; rcases hu with rfl | rfl | rfl | rfl <;> rfl
        case c3A => unfold maxLen; omega
        case c4A => omega
        case c5A => have := D2.out.grown.size; simp at this ⊢; omega
        intro v' w3 hown' hgrow' _
        have D3 := Lib.hid (DrC.append ⟨s, x, y, [p, q, r]⟩ D2.out hB hbw0 O2.out hown' hgrow')
        clear hgrow' hown' D2 O2
        go_wp2
        go_roundw
        case rel => exact ⟨k + 1, _, m + 1 + 8, by omega, by go_num, by omega, P2, D3⟩
        case measure => simp [intOf]; omega
      · have P2 := Lib.hid hP.out.skip
        go_wp2
        go_roundw
        case rel => exact ⟨k + 1, P, m + 1, by omega, by go_num, by omega, P2, D1⟩
        case measure => simp [intOf]; omega
    · obtain rfl : k = 4 := by omega
      have D2 := Lib.hid (hD.out.low hG1.out)
      clear hD
      go_wp2
      go_ret
      exact ⟨_, P, m, rfl, hP.out, by omega, D2.out⟩
set_option maxHeartbeats 1600000 in
theorem R8Coats_any (v : Value) (Z : List Int) (w : World) (hZ : Z.length ≤ 1048576) (hu : U8Old w.heap.size w v Z) :
    Calls Tryz.prog 5 #[v] w fun e w' => ∃ (u : Value) (Y : List Ct), e = .returned u ∧ CtsAt w' u Y ∧ ctsB Y = true ∧ Y.length ≤ 4 ∧ Below w.heap.size w w' := by
  have q0 := from_any v Z w hu
  clear hu
  have qd := Lib.hid (fun b W (hb : w.heap.size ≤ b) => l13Draw_any b w.heap.size 0 v Z W hb (by decide) hZ)
  go_enter Tryz.func5, Tryz.ntmps5
  go_wp2_with fail
  refine q0.out.mono ?_
  rintro e w1 ⟨b, rfl, hb, s1, u1, g1⟩
  have G1 := Lib.hid g1
  have p1 := Lib.hid (qd.out b w1 hb s1 u1)
  clear s1 u1 q0 g1 qd
  go_wp2_with fail
  refine p1.out.mono ?_
  rintro e w2 ⟨u, P, m, rfl, hP, hm, hD⟩
  have G2 := Lib.hid (G1.out.grown hD.grown G1.out.size (fun k hk => (by injection hk with hk; omega)))
  have C2 := Lib.hid (hD.cts hP)
  have hgd := Lib.hid hP.good
  clear p1 G1 hD hP
  go_wp2
  go_ret
  exact ⟨u, P.map Prod.fst, rfl, C2.out, hgd.out.1, hgd.out.2, G2.out⟩
set_option maxHeartbeats 1600000 in
theorem R8Colour_any (v : Value) (Z : List Int) (w : World) (hZ : Z.length ≤ 1048576) (hu : U8Old w.heap.size w v Z) :
    Calls Tryz.prog 6 #[v] w fun e w' => ∃ u p q r, e = .returned u ∧ (0 ≤ p ∧ p ≤ 255) ∧ (0 ≤ q ∧ q ≤ 255) ∧ (0 ≤ r ∧ r ≤ 255) ∧ w'.ownsRow w.heap.size 2 1 u 3 ([p, q, r].map encI) ∧ Below w.heap.size w w' := by
  have q0 := from_any v Z w hu
  clear hu
  have qd := Lib.hid (fun b W (hb : w.heap.size ≤ b) => l13DrawColour_any b w.heap.size 0 v Z W hb (by decide) hZ)
  go_enter Tryz.func6, Tryz.ntmps6
  go_wp2_with fail
  refine q0.out.mono ?_
  rintro e w1 ⟨b, rfl, hb, s1, u1, g1⟩
  have G1 := Lib.hid g1
  have p1 := Lib.hid (qd.out b w1 hb s1 u1)
  clear s1 u1 q0 g1 qd
  go_wp2_with fail
  refine p1.out.mono ?_
  rintro e w2 ⟨u, p, q, r, rfl, a2, b2, c2, o2, s2, u2, g2⟩
  have G2 := Lib.hid (G1.out.grown g2 G1.out.size (fun k hk => (by injection hk with hk; omega)))
  have O2 := Lib.hid (own_low o2 G1.out.size)
  clear s2 u2 p1 g2 G1 o2
  go_wp2
  go_ret
  exact ⟨_, p, q, r, rfl, a2, b2, c2, O2.out, G2.out⟩
end Go.Proofs.YtgfhjcbmilaegaaGreatDoor
