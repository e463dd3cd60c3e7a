/-
  Rows of planks: the law's own copies and comparisons.
-/
import Derived.Test.YtfcdhjbnlokinaaPlanks
import Derived.OwnWalk
import Derived.Deep.RegionHeld3
namespace Go.Proofs.Ytfcdhjbnlokinaa
open Go.ChangeShapes Go.WideShapes Go.ChangeAt Go.RowKit Go.Deep
set_option linter.unusedVariables false
set_option linter.unusedSimpArgs false
theorem below_sets {B b : Nat} {a : World} (hb : B ≤ b) : ∀ (vs : List Value) (o : Nat) (w : World), Below B a w → Below B a (w.setCells b o vs)
  | [], _, _, h => h
  | v :: r, o, w, h => below_sets hb r (o + 1) _ (h.setCell hb v)
theorem there_below {w w' : World} {b o n : Nat} (h : w.there b o n) (hb : b < w.heap.size) (hw : Below w.heap.size w w') : w'.there b o n :=
  fun j hj => ⟨by rw [hw.cell (p := ⟨b, o + j, none⟩) hb]; exact (h j hj).1, by rw [hw.frozen (p := ⟨b, o + j, none⟩) hb]; exact (h j hj).2⟩
theorem there_part {w : World} {b n : Nat} (h : w.there b 0 n) (o m : Nat) (hm : o + m ≤ n) : w.there b o m :=
  fun j hj => by have := h (o + j) (by omega); simpa using this
theorem there_own {w : World} {B : Nat} {e : TypeId} {g n cap size : Nat} {xs : List Value} (h : w.ownsRow B e size (.slice (some ⟨g, 0, none⟩) n cap) n xs) : w.there g 0 (n * size) := by
  rcases h.2 with ⟨h1, _⟩ | ⟨g', cap', cur, hv, hg, hb, hn, hcap, hs, _⟩
  · cases h1
  · injection hv with e1 e2 e3
    have e4 : g = g' := by have := Option.some.inj e1; injection this
    subst e4
    intro j hj
    have hle : n * size ≤ cap' * size := Nat.mul_le_mul_right _ hn
    refine ⟨?_, by simp [World.frozen?, hb]⟩
    rw [Nat.zero_add, cell_of_row w g j cur e (0, 0) hb, Array.getElem?_eq_getElem (by omega)]; rfl
theorem plks_len {Z : List Plk} (h : Z.length ≤ 1048576) : Z.length ≤ maxLen := by unfold maxLen; omega
/-- a new row of planks is handed back -/
def PlksRet (Z : List Plk) (w : World) (e : Ending) (w' : World) : Prop := ∃ v, e = .returned v ∧ PlksAt w' v Z ∧ Below w.heap.size w w'
theorem infoP : (Try.prog.info? 47).map (fun i => (i.zero, i.size, i.bytes)) = some (some (.agg #[.string ByteArray.empty, .int .i64 0, .int .i64 0, .int .i64 0, .int .i64 0, .int .i64 0]), 6, 56) := by kernel_rfl
/-- so many planks of a new row are laid -/
def StoredP (w : World) (Z : List Plk) (k : Nat) (wr : World) : Prop := wr.there w.heap.size 0 (Z.length * 6) ∧ w.heap.size < wr.heap.size ∧ Hid (∀ i (hi : i < Z.length), i < k → wr.rangeAt w.heap.size (i * 6) Z[i].cells) ∧ Below w.heap.size w wr
theorem size_sets (b : Nat) : ∀ (vs : List Value) (o : Nat) (w : World), (w.setCells b o vs).heap.size = w.heap.size
  | [], _, _ => rfl
  | v :: r, o, w => by show ((w.setCell ⟨b, o, none⟩ v).setCells b (o + 1) r).heap.size = _; rw [size_sets b r]; simp
theorem plk_stored {w w2 : World} {Z : List Plk} {k : Nat} {x : Plk} (hlt : k < Z.length) (hx : x = Z[k]) (hth : w2.there w.heap.size 0 (Z.length * 6)) (hdone : ∀ i (hi : i < Z.length), i < k → w2.rangeAt w.heap.size (i * 6) Z[i].cells) (hsz : w.heap.size < w2.heap.size) (hb : Below w.heap.size w w2) (o : Nat) (ho : o = k * 6) : StoredP w Z (k + 1) (w2.setCells w.heap.size o x.cells) := by
  subst ho
  refine ⟨World.there_setCells hth _ _ _, by rw [size_sets]; exact hsz, Lib.hid ?_, below_sets (Nat.le_refl _) _ _ _ hb⟩
  intro i hi hik
  by_cases e : i = k
  · subst e; rw [← hx]; exact World.rangeAt_setCells_same _ _ _ _ (there_part hth _ _ (by simp [Plk.cells]; omega))
  · exact World.rangeAt_setCells_apart (hdone i hi (by omega)) _ _ _ (Or.inr (Or.inl (by simp [Plk.cells]; omega)))
theorem sizeP : (Try.prog.info? 47).map (·.size) = some 6 := by kernel_rfl
theorem one6 (s : ByteArray) (a b c d f : Int) : (#[Value.string s, .int .i64 a, .int .i64 b, .int .i64 c, .int .i64 d, .int .i64 f] : Array Value).all (·.oneCell') = true := by simp [Value.oneCell']
set_option maxHeartbeats 1600000 in
theorem toPlankS_any (v : Value) (Z : List Plk) (w : World) (hn : Z.length ≤ 1048576) (hv : PlksAt w v Z) : Calls Try.prog 10 #[v] w (PlksRet Z w) := by
  obtain ⟨i0, hi, hz0, hz1, hz2⟩ := info_parts infoP
  obtain ⟨a, cap, rfl, hcap, hids, hread⟩ := hv
  have hread' := Lib.hid hread
  have hids' := Lib.hid hids
  clear hread hids
  go_enter Try.func10, Try.ntmps10
  go_wp2_with (at_make; refine wpList_make_full _ rfl _ _ 25 rfl w.heap.size 47 i0 _ 6 Try.underlying25 hi hz0 hz1 .i64 .i64 _ _ Z.length rfl rfl rfl rfl ?b1 ?b2 ?b3 ?_)
  case b1 => rw [hz2]; omega
  case b2 => unfold maxLen; omega
  case b3 => exact Nat.le_refl _
  intro w1 hown hgr
  have hth : w1.there w.heap.size 0 (Z.length * 6) := there_own hown
  have hb1 : Below w.heap.size w w1 := (Below.refl _ _).grown hgr (Nat.le_refl _) (fun k hk => by cases hk)
  have hlt1 : w.heap.size < w1.heap.size := (hown.lt w.heap.size rfl).2
  clear hgr hown
  go_wp2
  go_loopw [4] (fun i wr => ∃ k : Nat, k ≤ Z.length ∧ i = .int .i64 k ∧ wr.there w.heap.size 0 (Z.length * 6) ∧ w.heap.size < wr.heap.size ∧ Hid (∀ i (hi : i < Z.length), i < k → wr.rangeAt w.heap.size (i * 6) Z[i].cells) ∧ Below w.heap.size w wr) (fun i _ => Z.length - (intOf i).toNat)
  case atStart => exact ⟨0, by omega, rfl, hth, hlt1, Lib.hid (fun i hi h => by omega), hb1⟩
  case round =>
    obtain ⟨k, hk, rfl, hth2, hlt2, hdone, hb⟩ := hrel
    by_cases hlt : k < Z.length
    · rcases hread'.out with h | ⟨g, o, rfl, hg, hc⟩
      · subst h; simp at hlt
      obtain ⟨x, hx⟩ : ∃ x, x = Z[k] := ⟨_, rfl⟩
      have hr := range_below (hc k hlt) hg hb
      rw [← hx] at hr
      obtain ⟨s, a1, b1, c1, d1, f1⟩ := x
      have hx' := Lib.hid hx
      clear hx hc
      go_wp2_with (first
        | (refine wpList_load_mid rfl _ _ rfl g (o + k * 6) rfl _ _ hr Try.underlying46 rfl rfl ?_)
        | (go_at_call 26; refine (toPlank_any _ _ _ _ _ _ _).mono ?_; rintro e w2 ⟨rfl, b2⟩; have hth3 := there_below hth2 hlt2 b2; have hlt3 := Nat.lt_of_lt_of_le hlt2 b2.size; have hb3 := below2 hb b2; have hdone3 : Hid (∀ i (hi : i < Z.length), i < k → w2.rangeAt w.heap.size (i * 6) Z[i].cells) := Lib.hid (fun i hi h => range_below (hdone.out i hi h) hlt2 b2); clear b2)
        | (refine wpList_store_mid rfl _ _ _ rfl _ _ _ rfl rfl ?_ sizeP (one6 _ _ _ _ _ _) ?_; (exact there_part hth3 _ 6 (by omega)); generalize hW : World.setCells _ _ _ _ = w5; (have H : StoredP w Z (k + 1) w5 := by (rw [← hW]; exact plk_stored hlt hx'.out hth3 hdone3.out hlt3 hb3 _ (by omega))); clear hW; obtain ⟨hth4, hsz5, hdone2, hb5⟩ := H))
      clear hdone hth2 hlt2 hb
      go_wp2
      go_roundw
      case rel => exact ⟨k + 1, by omega, by go_num, hth4, hsz5, hdone2, hb5⟩
      case measure => simp [intOf]; omega
    · obtain rfl : k = Z.length := by omega
      go_wp2
      go_ret
      exact ⟨_, rfl, ⟨_, _, rfl, Nat.le_refl _, hids'.out, Or.inr ⟨_, 0, rfl, hlt2, fun i hi => by rw [Nat.zero_add]; exact hdone.out i hi hi⟩⟩, hb⟩
theorem eqPlank_any (s : ByteArray) (a b c d f : Int) (w : World) : Calls Try.prog 30 #[.agg #[.string s, .int .i64 a, .int .i64 b, .int .i64 c, .int .i64 d, .int .i64 f], .agg #[.string s, .int .i64 a, .int .i64 b, .int .i64 c, .int .i64 d, .int .i64 f]] w fun e w' => e = .returned (.bool true) ∧ Below w.heap.size w w' := by
  go_enter Try.func30, Try.ntmps30
  go_wp2
  go_ret
  exact ⟨rfl, ((Below.refl _ _).alloc (Nat.le_refl _) _).alloc (by simp) _⟩
end Go.Proofs.Ytfcdhjbnlokinaa
