/-
  Rows of Stack: the law's own copies.
-/
import Derived.Test.YtjgpckocmjolmaaDoorStks
import Derived.OwnWalk
import Derived.Deep.RegionHeld3
namespace Go.Proofs.YtjgpckocmjolmaaDoor
open Go.ChangeShapes Go.WideShapes Go.ChangeAt Go.RowKit Go.Deep
set_option linter.unusedVariables false
set_option linter.unusedSimpArgs false
set_option maxRecDepth 1000000
/-- a new row is handed back -/
def StksRet (Z : List Stk) (w : World) (e : Ending) (w' : World) : Prop := ∃ v, e = .returned v ∧ StksAt w' v Z ∧ Below w.heap.size w w'
theorem infoStk : (Tryd.prog.info? 40).map (fun i => (i.zero, i.size, i.bytes)) = some (some (.agg #[.string ByteArray.empty, .int .i64 0, .int .i64 0, .int .i64 0]), 4, 40) := by kernel_rfl
/-- so many of a new row are laid -/
def StoredStk (w : World) (Z : List Stk) (k : Nat) (wr : World) : Prop := wr.there w.heap.size 0 (Z.length * 4) ∧ w.heap.size < wr.heap.size ∧ Hid (∀ i (hi : i < Z.length), i < k → wr.rangeAt w.heap.size (i * 4) Z[i].cells) ∧ Below w.heap.size w wr
theorem stk_stored {w w2 : World} {Z : List Stk} {k : Nat} {x : Stk} (hlt : k < Z.length) (hx : x = Z[k]) (hth : w2.there w.heap.size 0 (Z.length * 4)) (hdone : ∀ i (hi : i < Z.length), i < k → w2.rangeAt w.heap.size (i * 4) Z[i].cells) (hsz : w.heap.size < w2.heap.size) (hb : Below w.heap.size w w2) (o : Nat) (ho : o = k * 4) : StoredStk w Z (k + 1) (w2.setCells w.heap.size o x.cells) := by
  subst ho
  refine ⟨World.there_setCells hth _ _ _, by rw [size_sets]; exact hsz, Lib.hid ?_, below_sets (Nat.le_refl _) _ _ _ hb⟩
  intro i hi hik
  by_cases e : i = k
  · subst e; rw [← hx]; exact World.rangeAt_setCells_same _ _ _ _ (there_part hth _ _ (by simp [Stk.cells]; omega))
  · exact World.rangeAt_setCells_apart (hdone i hi (by omega)) _ _ _ (Or.inr (Or.inl (by simp [Stk.cells]; omega)))
theorem sizeStk : (Tryd.prog.info? 40).map (·.size) = some 4 := by kernel_rfl
theorem oneStk (s : ByteArray) (a : Int) (b : Int) (c : Int) : (#[Value.string s, .int .i64 a, .int .i64 b, .int .i64 c] : Array Value).all (·.oneCell') = true := by simp [Value.oneCell']
/-- a new row is handed back, and where it lies -/
def StksNew (Z : List Stk) (w : World) (e : Ending) (w' : World) : Prop := e = .returned (.slice (some ⟨w.heap.size, 0, none⟩) Z.length Z.length) ∧ StksAt w' (.slice (some ⟨w.heap.size, 0, none⟩) Z.length Z.length) Z ∧ w'.there w.heap.size 0 (Z.length * 4) ∧ w.heap.size < w'.heap.size ∧ Below w.heap.size w w'
set_option maxHeartbeats 1600000 in
theorem toStackS_new (v : Value) (Z : List Stk) (w : World) (hn : Z.length ≤ 1048576) (hv : StksAt w v Z) : Calls Tryd.prog 6 #[v] w (StksNew Z w) := by
  obtain ⟨i0, hi, hz0, hz1, hz2⟩ := info_parts infoStk
  obtain ⟨a, cap, rfl, hcap, hids, hread⟩ := hv
  have hread' := Lib.hid hread
  have hids' := Lib.hid hids
  clear hread hids
  go_enter Tryd.func6, Tryd.ntmps6
  go_wp2_with (at_make; refine wpList_make_full _ rfl _ _ 27 rfl w.heap.size 40 i0 _ 4 Tryd.underlying27 hi hz0 hz1 .i64 .i64 _ _ Z.length rfl rfl rfl rfl ?b1 ?b2 ?b3 ?_)
  case b1 => rw [hz2]; omega
  case b2 => unfold maxLen; omega
  case b3 => exact Nat.le_refl _
  intro w1 hown hgr
  have hth : w1.there w.heap.size 0 (Z.length * 4) := there_own hown
  have hb1 : Below w.heap.size w w1 := (Below.refl _ _).grown hgr (Nat.le_refl _) (fun k hk => by cases hk)
  have hlt1 : w.heap.size < w1.heap.size := (hown.lt w.heap.size rfl).2
  clear hgr hown
  go_wp2
  go_loopw [4] (fun i wr => ∃ k : Nat, k ≤ Z.length ∧ i = .int .i64 k ∧ wr.there w.heap.size 0 (Z.length * 4) ∧ w.heap.size < wr.heap.size ∧ Hid (∀ i (hi : i < Z.length), i < k → wr.rangeAt w.heap.size (i * 4) Z[i].cells) ∧ Below w.heap.size w wr) (fun i _ => Z.length - (intOf i).toNat)
  case atStart => exact ⟨0, by omega, rfl, hth, hlt1, Lib.hid (fun i hi h => by omega), hb1⟩
  case round =>
    obtain ⟨k, hk, rfl, hth2, hlt2, hdone, hb⟩ := hrel
    by_cases hlt : k < Z.length
    · rcases hread'.out with h | ⟨g, o, rfl, hg, hc⟩
      · subst h; simp at hlt
      obtain ⟨x, hx⟩ : ∃ x, x = Z[k] := ⟨_, rfl⟩
      have hr := range_below (hc k hlt) hg hb
      rw [← hx] at hr
      obtain ⟨s, a, b, c⟩ := x
      have hx' := Lib.hid hx
      clear hx hc
      go_wp2_with (first
        | (refine wpList_load_mid rfl _ _ rfl g (o + k * 4) rfl _ _ hr Tryd.underlying36 rfl rfl ?_)
        | (go_at_call 20; refine (toStack_any _ _ _ _ _).mono ?_; rintro e w2 ⟨rfl, b2⟩; have hth3 := there_below hth2 hlt2 b2; have hlt3 := Nat.lt_of_lt_of_le hlt2 b2.size; have hb3 := below2 hb b2; have hdone3 : Hid (∀ i (hi : i < Z.length), i < k → w2.rangeAt w.heap.size (i * 4) Z[i].cells) := Lib.hid (fun i hi h => range_below (hdone.out i hi h) hlt2 b2); clear b2)
        | (refine wpList_store_mid rfl _ _ _ rfl _ _ _ rfl rfl ?_ sizeStk (oneStk _ _ _ _) ?_; (exact there_part hth3 _ 4 (by omega)); generalize hW : World.setCells _ _ _ _ = w5; (have H : StoredStk w Z (k + 1) w5 := by (rw [← hW]; exact stk_stored hlt hx'.out hth3 hdone3.out hlt3 hb3 _ (by omega))); clear hW; obtain ⟨hth4, hsz5, hdone2, hb5⟩ := H))
      clear hdone hth2 hlt2 hb
      go_wp2
      go_roundw
      case rel => exact ⟨k + 1, by omega, by go_num, hth4, hsz5, hdone2, hb5⟩
      case measure => simp [intOf]; omega
    · obtain rfl : k = Z.length := by omega
      go_wp2
      go_ret
      exact ⟨rfl, ⟨_, _, rfl, Nat.le_refl _, hids'.out, Or.inr ⟨_, 0, rfl, hlt2, fun i hi => by rw [Nat.zero_add]; exact hdone.out i hi hi⟩⟩, hth2, hlt2, hb⟩
theorem toStackS_any (v : Value) (Z : List Stk) (w : World) (hn : Z.length ≤ 1048576) (hv : StksAt w v Z) : Calls Tryd.prog 6 #[v] w (StksRet Z w) :=
  (toStackS_new v Z w hn hv).mono fun _ _ h => ⟨_, h.1, h.2.1, h.2.2.2.2⟩
end Go.Proofs.YtjgpckocmjolmaaDoor
