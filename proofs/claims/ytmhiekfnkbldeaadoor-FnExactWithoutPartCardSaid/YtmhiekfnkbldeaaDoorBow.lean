/-
  Bows: masses, moments, inertia.
-/
import Derived.Test.YtmhiekfnkbldeaaDoorPrts5
import Derived.Test.YtmhiekfnkbldeaaDoorBowMath
import Derived.Test.YtmhiekfnkbldeaaDoorSplit
import Derived.StillTailTactics
import Derived.Test.YtmhiekfnkbldeaaDoorMul
import Derived.Test.YtmhiekfnkbldeaaDoorRowMath
import Derived.BigQuiet
import Derived.Deep.QuietTactic
import Derived.OwnWalk
namespace Go.Proofs.YtmhiekfnkbldeaaDoor
open Go.ChangeShapes Go.WideShapes Go.ChangeAt Go.RowKit Go.Deep
set_option linter.unusedVariables false
set_option linter.unusedSimpArgs false
set_option maxRecDepth 1000000
/-- mass, mass times place, and inertia of part number i -/
def masF (Z : List Prt) (i : Nat) : Int := (Z.getD i prt0).mas
def momF (Z : List Prt) (i : Nat) : Int := (Z.getD i prt0).mas * (Z.getD i prt0).plc
def inrF (Z : List Prt) (p : Int) (i : Nat) : Int := (Z.getD i prt0).mas * ((Z.getD i prt0).plc - p) * ((Z.getD i prt0).plc - p)
/-- parts within their bounds, no more than twelve -/
def bowOk (Z : List Prt) : Prop := Z.length ≤ 12 ∧ ∀ x ∈ Z, (0 ≤ x.plc ∧ x.plc ≤ 8000) ∧ (1 ≤ x.mas ∧ x.mas ≤ 100000)
theorem bow_ok {Z : List Prt} (h : bowB Z = true) : bowOk Z := ⟨(bow_0 h).2.1, fun x hx => by
  obtain ⟨k, hk, rfl⟩ := List.getElem_of_mem hx
  exact bow_at h hk⟩
theorem bowOk_at {Z : List Prt} (h : bowOk Z) {k : Nat} (hk : k < Z.length) : (0 ≤ Z[k].plc ∧ Z[k].plc ≤ 8000) ∧ (1 ≤ Z[k].mas ∧ Z[k].mas ≤ 100000) := h.2 _ (List.getElem_mem hk)
theorem mom_bd {a b : Int} (ha : 0 ≤ a ∧ a ≤ 8000) (hb : 1 ≤ b ∧ b ≤ 100000) : 0 ≤ b * a ∧ b * a ≤ 800000000 := mulP_bd (A := 100000) (B := 8000) (by omega) ha
theorem sq_bd {d : Int} (h0 : -8000 ≤ d) (h1 : d ≤ 8000) : 0 ≤ d * d ∧ d * d ≤ 64000000 := by
  rcases Int.le_total 0 d with h | h
  · exact mulP_bd (A := 8000) (B := 8000) ⟨h, h1⟩ ⟨h, h1⟩
  · have := mulP_bd (a := -d) (b := -d) (A := 8000) (B := 8000) (by omega) (by omega)
    rwa [Int.neg_mul_neg] at this
theorem inr_bd {b d : Int} (hb : 1 ≤ b ∧ b ≤ 100000) (h0 : -8000 ≤ d) (h1 : d ≤ 8000) : (-800000000 ≤ b * d ∧ b * d ≤ 800000000) ∧ 0 ≤ b * d * d ∧ b * d * d ≤ 6400000000000 := by
  have h2 := sq_bd h0 h1
  have h3 := mulP_bd (a := b) (b := d * d) (A := 100000) (B := 64000000) (by omega) h2
  have h4 := Int.mul_le_mul_of_nonneg_left h0 (by omega : 0 ≤ b)
  have h5 := Int.mul_le_mul_of_nonneg_left h1 (by omega : 0 ≤ b)
  rw [Int.mul_assoc]
  refine ⟨⟨by omega, by omega⟩, by omega, by omega⟩
theorem masF_at {Z : List Prt} {k : Nat} (hk : k < Z.length) : masF Z k = Z[k].mas := by unfold masF; rw [prt_getD_at' hk]
theorem momF_at {Z : List Prt} {k : Nat} (hk : k < Z.length) : momF Z k = Z[k].mas * Z[k].plc := by unfold momF; rw [prt_getD_at' hk]
theorem inrF_at {Z : List Prt} {p : Int} {k : Nat} (hk : k < Z.length) : inrF Z p k = Z[k].mas * (Z[k].plc - p) * (Z[k].plc - p) := by unfold inrF; rw [prt_getD_at' hk]
theorem masS_bd {Z : List Prt} (h : bowOk Z) {k : Nat} (hk : k ≤ Z.length) : k ≤ sumF (masF Z) k ∧ sumF (masF Z) k ≤ 100000 * k := by
  have := sumF_bd (f := masF Z) (lo := 1) (hi := 100000) k (fun i hi => by rw [masF_at (by omega)]; exact (bowOk_at h (by omega)).2)
  omega
theorem momS_bd {Z : List Prt} (h : bowOk Z) {k : Nat} (hk : k ≤ Z.length) : 0 ≤ sumF (momF Z) k ∧ sumF (momF Z) k ≤ 800000000 * k := by
  have := sumF_bd (f := momF Z) (lo := 0) (hi := 800000000) k (fun i hi => by rw [momF_at (by omega)]; exact mom_bd (bowOk_at h (by omega)).1 (bowOk_at h (by omega)).2)
  omega
theorem inrS_bd {Z : List Prt} {p : Int} (h : bowOk Z) (hp : 0 ≤ p ∧ p ≤ 8000) {k : Nat} (hk : k ≤ Z.length) : 0 ≤ sumF (inrF Z p) k ∧ sumF (inrF Z p) k ≤ 6400000000000 * k := by
  have := sumF_bd (f := inrF Z p) (lo := 0) (hi := 6400000000000) k (fun i hi => by
    have h1 := bowOk_at h (show i < Z.length by omega)
    rw [inrF_at (by omega)]; exact (inr_bd h1.2 (by omega) (by omega)).2)
  omega
theorem prt_at {w wr : World} (hd : DrewOf w wr) {g o : Nat} {x : Prt} (hr : w.rangeAt g o x.cells) : wr.cell? ⟨g, o + 1, none⟩ = some (.int .i64 x.plc) ∧ wr.cell? ⟨g, o + 2, none⟩ = some (.int .i64 x.mas) := ⟨(prtAt_of (hd.range hr)).2.1, (prtAt_of (hd.range hr)).2.2⟩
set_option maxHeartbeats 1600000 in
theorem l11Mass_any (v : Value) (Z : List Prt) (w : World) (hlo : bowOk Z) (hv : PrtsAt w v Z) : Calls Tryd.prog 21 #[v] w fun e w' => e = .returned (.int .i64 (sumF (masF Z) Z.length)) ∧ DrewOf w w' := by
  have h8 := hlo.1
  have hlo' := Lib.hid hlo
  obtain ⟨p, cap, rfl, hcap, hids, hread⟩ := hv
  have hread' := Lib.hid hread
  clear hread hids hlo
  go_enter Tryd.func21, Tryd.ntmps21
  go_wp2
  go_loopw [3, 4] (fun q i wr => ∃ (k : Nat) (n : Int), k ≤ Z.length ∧ i = .int .i64 k ∧ q = .int .i64 n ∧ 0 ≤ n ∧ n ≤ 100000 * k ∧ Hid (n = sumF (masF Z) k) ∧ DrewOf w wr) (fun _ i _ => Z.length - (intOf i).toNat)
  case atStart => exact ⟨0, 0, by omega, rfl, rfl, by omega, by omega, Lib.hid rfl, DrewOf.refl _⟩
  case round =>
    obtain ⟨k, n, hk, rfl, rfl, hn0, hn1, hn, hd⟩ := hrel
    by_cases hlt : k < Z.length
    · rcases hread'.out with h | ⟨g, o, rfl, hg, hc⟩
      · subst h; simp at hlt
      have hltI : (k : Int) < (Z.length : Int) := by omega
      obtain ⟨c1, c2⟩ := prt_at hd (hc k hlt)
      have hxb := bowOk_at hlo'.out hlt
      have hnew : Hid (n + Z[k].mas = sumF (masF Z) (k + 1)) := Lib.hid (by show _ = sumF (masF Z) k + masF Z k; rw [masF_at hlt, hn.out])
      obtain ⟨x, hx⟩ : ∃ x, x = Z[k] := ⟨_, rfl⟩
      rw [← hx] at c1 c2 hxb hnew
      obtain ⟨s, a, b⟩ := x
      simp only at c1 c2 hxb hnew
      clear hx hc
      go_wp2
      go_roundw
      case rel => exact ⟨k + 1, _, by omega, by go_num, rfl, by omega, by omega, hnew, hd⟩
      case measure => simp [intOf]; omega
    · obtain rfl : k = Z.length := by omega
      go_wp2
      go_ret
      exact ⟨ret_int hn.out, hd⟩
set_option maxHeartbeats 1600000 in
theorem l11Moment_any (v : Value) (Z : List Prt) (w : World) (hlo : bowOk Z) (hv : PrtsAt w v Z) : Calls Tryd.prog 20 #[v] w fun e w' => e = .returned (.int .i64 (sumF (momF Z) Z.length)) ∧ DrewOf w w' := by
  have h8 := hlo.1
  have hlo' := Lib.hid hlo
  obtain ⟨p, cap, rfl, hcap, hids, hread⟩ := hv
  have hread' := Lib.hid hread
  clear hread hids hlo
  go_enter Tryd.func20, Tryd.ntmps20
  go_wp2
  go_loopw [3, 4] (fun q i wr => ∃ (k : Nat) (n : Int), k ≤ Z.length ∧ i = .int .i64 k ∧ q = .int .i64 n ∧ 0 ≤ n ∧ n ≤ 800000000 * k ∧ Hid (n = sumF (momF Z) k) ∧ DrewOf w wr) (fun _ i _ => Z.length - (intOf i).toNat)
  case atStart => exact ⟨0, 0, by omega, rfl, rfl, by omega, by omega, Lib.hid rfl, DrewOf.refl _⟩
  case round =>
    obtain ⟨k, n, hk, rfl, rfl, hn0, hn1, hn, hd⟩ := hrel
    by_cases hlt : k < Z.length
    · rcases hread'.out with h | ⟨g, o, rfl, hg, hc⟩
      · subst h; simp at hlt
      have hltI : (k : Int) < (Z.length : Int) := by omega
      obtain ⟨c1, c2⟩ := prt_at hd (hc k hlt)
      have hxb := bowOk_at hlo'.out hlt
      have hnew : Hid (n + Z[k].mas * Z[k].plc = sumF (momF Z) (k + 1)) := Lib.hid (by show _ = sumF (momF Z) k + momF Z k; rw [momF_at hlt, hn.out])
      obtain ⟨x, hx⟩ : ∃ x, x = Z[k] := ⟨_, rfl⟩
      rw [← hx] at c1 c2 hxb hnew
      obtain ⟨s, a, b⟩ := x
      simp only at c1 c2 hxb hnew
      clear hx hc
      have hmb := mom_bd hxb.1 hxb.2
      have e1 : IntKind.i64.wrap (b * a) = b * a := IntWalk.i64_in _ (by omega)
      have e2 : IntKind.i64.wrap (n + b * a) = n + b * a := IntWalk.i64_in _ (by omega)
      go_wp2
      go_quiet (fail)
      go_wp2
      go_roundw
      case rel => exact ⟨k + 1, _, by omega, by go_num, rfl, by omega, by omega, hnew, hd.more _⟩
      case measure => simp [intOf]; omega
    · obtain rfl : k = Z.length := by omega
      go_wp2
      go_ret
      exact ⟨ret_int hn.out, hd⟩
/-- a bow in the making: its lever and its parts -/
def BowAt (w : World) (p : Nat) (m q : Int) (v : Value) : Prop := w.heap[p]? = some (.cells #[.int .i64 m, .int .i64 q, v] 52 (0, 0))
theorem BowAt.lt {w : World} {p : Nat} {m q : Int} {v : Value} (h : BowAt w p m q v) : p < w.heap.size := (Array.getElem?_eq_some_iff.1 h).1
theorem BowAt.below {w w' : World} {p : Nat} {m q : Int} {v : Value} (h : BowAt w p m q v) (hb : Below w.heap.size w w') : BowAt w' p m q v := (hb.block p h.lt).trans h
theorem bw_set (w : World) (a : Addr) (u : Value) : w.grownBy (w.setCell a u) (some a.block) :=
  ⟨rfl, rfl, rfl, by simp, fun k _ hk => Below.heap_setCell _ _ _ k (fun e => hk (by rw [e]))⟩
theorem bw_heap {w : World} {b : Nat} {cs : Array Value} {t : TypeId} (h : w.heap[b]? = some (.cells cs t (0, 0))) (i : Nat) (v : Value) (cs' : Array Value) (hc : cs.setIfInBounds i v = cs') : (w.setCell ⟨b, i, none⟩ v).heap[b]? = some (.cells cs' t (0, 0)) := by
  obtain ⟨hlt, hk⟩ := Array.getElem?_eq_some_iff.1 h
  show (w.heap.modify b _)[b]? = _
  rw [Array.getElem?_eq_getElem (by rw [Array.size_modify]; exact hlt), Array.getElem_modify_self, hk, ← hc]
  simp [Array.setIfInBounds]
theorem BowAt.mass {w : World} {p : Nat} {m q : Int} {v : Value} (h : BowAt w p m q v) (n : Int) : BowAt (w.setCell ⟨p, 0, none⟩ (.int .i64 n)).drew p n q v := bw_heap h 0 _ _ rfl
theorem BowAt.moment {w : World} {p : Nat} {m q : Int} {v : Value} (h : BowAt w p m q v) (n : Int) : BowAt (w.setCell ⟨p, 1, none⟩ (.int .i64 n)).drew p m n v := bw_heap h 1 _ _ rfl
theorem set_drew (w : World) (a : Addr) (u : Value) : w.grownBy (w.setCell a u).drew (some a.block) := gtrans (bw_set w a u) (below_grown' (belowN (Below.refl _ _) 1) _)
theorem prt_kept {w w' : World} {g p : Nat} {x : Prt} (h : PrtAt w g 0 x) (hg : g < w.heap.size) (k : w.grownBy w' (some p)) (hp : g ≠ p) : PrtAt w' g 0 x := by
  have hb := k.block g hg (fun e => hp (by injection e))
  have hc : ∀ i, w'.cell? ⟨g, i, none⟩ = w.cell? ⟨g, i, none⟩ := fun i => by simp [World.cell?, hb]
  unfold PrtAt at h ⊢
  rw [hc, hc, hc]; exact h
set_option maxHeartbeats 3200000 in
theorem put_any (s : ByteArray) (a : Int) (b : Int) (p : Nat) (m q : Int) (u : Value) (w : World) (h0 : 0 ≤ m ∧ m ≤ 1200000) (h1 : 0 ≤ q ∧ q ≤ 9600000000) (ha : 0 ≤ a ∧ a ≤ 8000) (hb : 1 ≤ b ∧ b ≤ 100000) (h : BowAt w p m q u) :
    Calls Tryd.prog 38 #[.pointer (some ⟨p, 0, none⟩), .agg #[.string s, .int .i64 a, .int .i64 b]] w fun e w' => e = .returned (.tuple #[]) ∧ BowAt w' p (m + b) (q + b * a) u ∧ w.grownBy w' (some p) := by
  have hmb := mom_bd ha hb
  have e1 : IntKind.i64.wrap (b * a) = b * a := IntWalk.i64_in _ (by omega)
  have e2 : IntKind.i64.wrap (q + b * a) = q + b * a := IntWalk.i64_in _ (by omega)
  have e3 : IntKind.i64.wrap (m + b) = m + b := IntWalk.i64_in _ (by omega)
  have hp := h.lt
  have hpg : w.heap.size ≠ p := by omega
  have hB0 : Below w.heap.size w (w.alloc (.cells #[.string s, .int .i64 a, .int .i64 b] 43)) := (Below.refl _ _).alloc (Nat.le_refl _) _
  have hx := prt_box s a b w
  have hq0 : BowAt (w.alloc (.cells #[.string s, .int .i64 a, .int .i64 b] 43)) p m q u := h.below hB0
  have hsz : w.heap.size < (w.alloc (.cells #[.string s, .int .i64 a, .int .i64 b] 43)).heap.size := by simp
  have hG0 : w.grownBy (w.alloc (.cells #[.string s, .int .i64 a, .int .i64 b] 43)) (some p) := below_grown' hB0 _
  go_enter Tryd.func38, Tryd.ntmps38
  go_wp2_with fail
  generalize (w.alloc (.cells #[.string s, .int .i64 a, .int .i64 b] 43)) = W0 at hB0 hx hq0 hsz hG0 ⊢
  clear h hp hB0
  have hG0' := Lib.hid hG0
  clear hG0
  obtain ⟨x0, x1, x2⟩ := hx
  simp only [Nat.zero_add] at x0 x1 x2
  have c0 : W0.cell? ⟨p, 0, none⟩ = some (.int .i64 m) := cellB hq0 0 _ rfl
  have f0 := freeB hq0 0
  go_still_tail 9, (by kernel_rfl)
  change wpList _ _ _ _ _ W0.drew
  go_wp2
  have hq1 : BowAt (W0.setCell ⟨p, 0, none⟩ (.int .i64 (m + b))).drew p (m + b) q u := hq0.mass _
  have g1 : w.grownBy (W0.setCell ⟨p, 0, none⟩ (.int .i64 (m + b))).drew (some p) := gtrans hG0'.out (set_drew W0 _ _)
  have hx1 : PrtAt (W0.setCell ⟨p, 0, none⟩ (.int .i64 (m + b))).drew w.heap.size 0 ⟨s, a, b⟩ := prt_kept (x := ⟨s, a, b⟩) ⟨x0, x1, x2⟩ hsz (set_drew W0 ⟨p, 0, none⟩ _) hpg
  generalize (W0.setCell ⟨p, 0, none⟩ (.int .i64 (m + b))).drew = W1 at hq1 g1 hx1 ⊢
  clear x0 x1 x2 c0 f0 hq0 hsz hG0'
  have g1' := Lib.hid g1
  clear g1
  obtain ⟨x0, x1, x2⟩ := hx1
  simp only [Nat.zero_add] at x0 x1 x2
  have c1 : W1.cell? ⟨p, 1, none⟩ = some (.int .i64 q) := cellB hq1 1 _ rfl
  have f1 := freeB hq1 1
  go_still_tail 12, (by kernel_rfl)
  change wpList _ _ _ _ _ W1.drew
  go_wp2
  refine bodyPost_end (v := .tuple #[]) (results_none rfl _ _ _) rfl ⟨rfl, ?_, ?_⟩
  · exact hq1.moment _
  · exact gtrans g1'.out (set_drew W1 ⟨p, 1, none⟩ _)
/-- a bow by value -/
def bowV (Z : List Prt) (v : Value) : Value := .agg #[.int .i64 (sumF (masF Z) Z.length), .int .i64 (sumF (momF Z) Z.length), v]
set_option maxHeartbeats 3200000 in
theorem bowOf_any (v : Value) (Z : List Prt) (w : World) (hlo : bowOk Z) (hv : PrtsAt w v Z) : Calls Tryd.prog 26 #[v] w fun e w' => e = .returned (bowV Z v) ∧ Below w.heap.size w w' := by
  have h8 := hlo.1
  have hlo' := Lib.hid hlo
  have hV : Hid (bowV Z v = .agg #[.int .i64 (sumF (masF Z) Z.length), .int .i64 (sumF (momF Z) Z.length), v]) := Lib.hid rfl
  obtain ⟨p, cap, rfl, hcap, hids, hread⟩ := hv
  have hread' := Lib.hid hread
  clear hread hids hlo
  have hB0 : Below w.heap.size w ((w.alloc (.cells #[.int .i64 0, .int .i64 0, .slice none 0 0] 52)).alloc (.cells #[.int .i64 0, .int .i64 0, .slice p Z.length cap] 52)) := ((Below.refl _ _).alloc (Nat.le_refl _) _).alloc (by simp) _
  have hR0 : ((w.alloc (.cells #[.int .i64 0, .int .i64 0, .slice none 0 0] 52)).alloc (.cells #[.int .i64 0, .int .i64 0, .slice p Z.length cap] 52)).heap[w.heap.size]? = some (.cells #[.int .i64 0, .int .i64 0, .slice none 0 0] 52 (0, 0)) := by
    have h1 := heap_alloc_new w (.cells #[.int .i64 0, .int .i64 0, .slice none 0 0] 52)
    have h2 : Below (w.alloc (.cells #[.int .i64 0, .int .i64 0, .slice none 0 0] 52)).heap.size (w.alloc (.cells #[.int .i64 0, .int .i64 0, .slice none 0 0] 52)) ((w.alloc (.cells #[.int .i64 0, .int .i64 0, .slice none 0 0] 52)).alloc (.cells #[.int .i64 0, .int .i64 0, .slice p Z.length cap] 52)) := (Below.refl _ _).alloc (Nat.le_refl _) _
    exact (h2.block w.heap.size (by simp)).trans h1
  have hP0 : BowAt ((w.alloc (.cells #[.int .i64 0, .int .i64 0, .slice none 0 0] 52)).alloc (.cells #[.int .i64 0, .int .i64 0, .slice p Z.length cap] 52)) (w.heap.size + 1) 0 0 (.slice p Z.length cap) := by
    have h1 := heap_alloc_new (w.alloc (.cells #[.int .i64 0, .int .i64 0, .slice none 0 0] 52)) (.cells #[.int .i64 0, .int .i64 0, .slice p Z.length cap] 52)
    rwa [show (w.alloc (.cells #[.int .i64 0, .int .i64 0, .slice none 0 0] 52)).heap.size = w.heap.size + 1 by simp] at h1
  go_enter Tryd.func26, Tryd.ntmps26
  go_wp2_with fail
  generalize ((w.alloc (.cells #[.int .i64 0, .int .i64 0, .slice none 0 0] 52)).alloc (.cells #[.int .i64 0, .int .i64 0, .slice p Z.length cap] 52)) = W0 at hB0 hR0 hP0 ⊢
  go_loopw [10] (fun i wr => ∃ (k : Nat) (m q : Int), k ≤ Z.length ∧ i = .int .i64 k ∧ 0 ≤ m ∧ m ≤ 100000 * k ∧ 0 ≤ q ∧ q ≤ 800000000 * k ∧ Hid (m = sumF (masF Z) k) ∧ Hid (q = sumF (momF Z) k) ∧ BowAt wr (w.heap.size + 1) m q (.slice p Z.length cap) ∧ wr.heap[w.heap.size]? = some (.cells #[.int .i64 0, .int .i64 0, .slice none 0 0] 52 (0, 0)) ∧ Hid (Below w.heap.size w wr)) (fun i _ => Z.length - (intOf i).toNat)
  case atStart => exact ⟨0, 0, 0, by omega, rfl, by omega, by omega, by omega, by omega, Lib.hid rfl, Lib.hid rfl, hP0, hR0, Lib.hid hB0⟩
  case round =>
    obtain ⟨k, m, q, hk, rfl, hm0, hm1, hq0, hq1, hm, hq, hP, hR, hbR⟩ := hrel
    by_cases hlt : k < Z.length
    · rcases hread'.out with h | ⟨g, o, rfl, hg, hc⟩
      · subst h; simp at hlt
      have hltI : (k : Int) < (Z.length : Int) := by omega
      have hr0 := range_below (hc k hlt) hg hbR.out
      have hxb := bowOk_at hlo'.out hlt
      have hnm : Hid (m + Z[k].mas = sumF (masF Z) (k + 1)) := Lib.hid (by show _ = sumF (masF Z) k + masF Z k; rw [masF_at hlt, hm.out])
      have hnq : Hid (q + Z[k].mas * Z[k].plc = sumF (momF Z) (k + 1)) := Lib.hid (by show _ = sumF (momF Z) k + momF Z k; rw [momF_at hlt, hq.out])
      obtain ⟨x, hx⟩ : ∃ x, x = Z[k] := ⟨_, rfl⟩
      rw [← hx] at hr0 hxb hnm hnq
      obtain ⟨s, a, b⟩ := x
      simp only at hxb hnm hnq
      have hr1 : wr.rangeAt g (o + k * 3) [.string s, .int .i64 a, .int .i64 b] := hr0
      have hmb := mom_bd hxb.1 hxb.2
      have hP1 := Lib.hid (hP.below (w' := wr.alloc (.cells #[.string s, .int .i64 a, .int .i64 b] 43)) ((Below.refl _ _).alloc (Nat.le_refl _) _))
      have hR1 : Hid ((wr.alloc (.cells #[.string s, .int .i64 a, .int .i64 b] 43)).heap[w.heap.size]? = some (.cells #[.int .i64 0, .int .i64 0, .slice none 0 0] 52 (0, 0))) := Lib.hid ((((Below.refl wr.heap.size wr).alloc (Nat.le_refl _) (.cells #[.string s, .int .i64 a, .int .i64 b] 43)).block w.heap.size (Array.getElem?_eq_some_iff.1 hR).1).trans hR)
      have hb1 : Hid (Below w.heap.size w (wr.alloc (.cells #[.string s, .int .i64 a, .int .i64 b] 43))) := Lib.hid (hbR.out.alloc hbR.out.size _)
      clear hr0 hx hc hP hR hm hq
      go_wp2_with (first
        | (refine wpList_load_mid rfl _ _ rfl g (o + k * 3) rfl _ _ hr1 Tryd.underlying43 rfl rfl ?_)
        | (go_at_call 38; (with_reducible refine (put_any s a b (w.heap.size + 1) m q _ _ (by omega) (by omega) hxb.1 hxb.2 hP1.out).mono ?_); rintro e w2 ⟨rfl, hP2, hG2⟩))
      have hR2 : w2.heap[w.heap.size]? = some (.cells #[.int .i64 0, .int .i64 0, .slice none 0 0] 52 (0, 0)) := (hG2.block w.heap.size (Array.getElem?_eq_some_iff.1 hR1.out).1 (fun e => by injection e with e; omega)).trans hR1.out
      have hb2 := Lib.hid (hb1.out.grown hG2 hb1.out.size (fun j hj => by cases hj; omega))
      go_roundw
      case rel => exact ⟨k + 1, m + b, q + b * a, by omega, by go_num, by omega, by omega, by omega, by omega, hnm, hnq, hP2, hR2, hb2⟩
      case measure => simp [intOf]; omega
    · obtain rfl : k = Z.length := by omega
      have c0 : wr.cell? ⟨w.heap.size + 1, 0, none⟩ = some (.int .i64 m) := cellB hP 0 _ rfl
      have c1 : wr.cell? ⟨w.heap.size + 1, 1, none⟩ = some (.int .i64 q) := cellB hP 1 _ rfl
      have c2 : wr.cell? ⟨w.heap.size + 1, 2, none⟩ = some (.slice p Z.length cap) := cellB hP 2 _ rfl
      have r0 : wr.cell? ⟨w.heap.size, 0, none⟩ = some (.int .i64 0) := cellB hR 0 _ rfl
      have r1 : wr.cell? ⟨w.heap.size, 1, none⟩ = some (.int .i64 0) := cellB hR 1 _ rfl
      have r2 : wr.cell? ⟨w.heap.size, 2, none⟩ = some (.slice none 0 0) := cellB hR 2 _ rfl
      have f0 := freeB hR 0
      have f1 := freeB hR 1
      have f2 := freeB hR 2
      have hV2 : Hid (bowV Z (.slice p Z.length cap) = .agg #[.int .i64 m, .int .i64 q, .slice p Z.length cap]) := Lib.hid (by rw [hV.out, hm.out, hq.out])
      clear hP hR
      go_wp2
      exact bodyPost_ret (v := .agg #[.int .i64 m, .int .i64 q, .slice p Z.length cap]) (by simp [results, Tryd.results26, go_sem, r0, r1, r2, f0, f1, f2]) rfl ⟨by rw [hV2.out], ((hbR.out.setCell (Nat.le_refl _) _).setCell (Nat.le_refl _) _).setCell (Nat.le_refl _) _⟩
end Go.Proofs.YtmhiekfnkbldeaaDoor
