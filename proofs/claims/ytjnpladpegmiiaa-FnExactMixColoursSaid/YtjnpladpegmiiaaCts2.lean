/-
  Rows of coats: the law's own copies, comparisons and marks.
-/
import Derived.Test.YtjnpladpegmiiaaCts
namespace Go.Proofs.Ytjnpladpegmiiaa
open Go.ChangeShapes Go.WideShapes Go.ChangeAt Go.RowKit Go.Deep
set_option linter.unusedVariables false
set_option linter.unusedSimpArgs false
set_option maxRecDepth 1000000
theorem cts_take_len {Z : List Ct} {k : Nat} (h : k ≤ Z.length) : (Z.take k).length = k := by rw [List.length_take]; omega
set_option maxHeartbeats 1600000 in
theorem toCoatS_new (v : Value) (Z : List Ct) (w : World) (hn : Z.length + totC Z ≤ 1048576) (hv : CtsAt w v Z) : Calls Try.prog 15 #[v] w (CtsNew Z w) := by
  obtain ⟨i0, hi, hz0, hz1, hz2⟩ := info_parts infoCt
  obtain ⟨a, cap, rfl, hcap, hids, hread⟩ := hv
  have hread' := Lib.hid hread
  have hids' := Lib.hid hids
  have hnn : Z.length ≤ 1048576 := by omega
  have hn' := Lib.hid hn
  clear hread hids hn
  go_enter Try.func15, Try.ntmps15
  go_wp2_with (at_make; refine wpList_make_full _ rfl _ _ 25 rfl w.heap.size 45 i0 _ 4 Try.underlying25 hi hz0 hz1 .i64 .i64 _ _ Z.length rfl rfl rfl rfl ?b1 ?b2 ?b3 ?_)
  case b1 => rw [hz2]; omega
  case b2 => unfold maxLen; omega
  case b3 => exact Nat.le_refl _
  intro w1 hown hgr
  have hth : w1.there w.heap.size 0 (Z.length * 4) := there_own hown
  have hb1 : Below w.heap.size w w1 := (Below.refl _ _).grown hgr (Nat.le_refl _) (fun k hk => by cases hk)
  have hlt1 : w.heap.size < w1.heap.size := (hown.lt w.heap.size rfl).2
  have hO : OwnC w.heap.size w1.heap.size w1 w.heap.size Z.length (Z.take 0) [] := OwnC.empty (Nat.le_refl _) hlt1 hth
  have hO' := Lib.hid hO
  clear hgr hown hth hO
  go_wp2
  go_loopw [4] (fun i wr => ∃ (k : Nat) (us : List Value), k ≤ Z.length ∧ i = .int .i64 k ∧ Hid (OwnC w.heap.size wr.heap.size wr w.heap.size Z.length (Z.take k) us) ∧ Below w.heap.size w wr) (fun i _ => Z.length - (intOf i).toNat)
  case atStart => exact ⟨0, [], by omega, rfl, hO', hb1⟩
  case round =>
    obtain ⟨k, us, hk, rfl, hO2, hb⟩ := hrel
    by_cases hlt : k < Z.length
    · rcases hread'.out with h | ⟨g, o, rfl, hg, hc⟩
      · subst h; simp at hlt
      obtain ⟨u, hu, hui⟩ := hc k hlt
      obtain ⟨x, hx⟩ : ∃ x, x = Z[k] := ⟨_, rfl⟩
      have hr := range_below hu hg hb
      have htk : Z.take (k + 1) = Z.take k ++ [Z[k]] := List.take_succ_eq_append_getElem hlt
      have htc : Z[k].col.length ≤ totC Z := totC_ge (List.getElem_mem hlt)
      rw [← hx] at hr hui htk htc
      have hui2 := hui.below hb
      have hinn : ∀ n ∈ x.col, inI n := by obtain ⟨_, _, _, _, h, _⟩ := hui2; exact h
      obtain ⟨s, a, b, L⟩ := x
      have hL : L.length ≤ 1048576 := Nat.le_trans htc (by have := hn'.out; omega)
      have cT := Lib.hid (toCoat_any s a b u L hL wr hui2)
      have hr' : wr.rangeAt g (o + k * 4) [.string s, .int .i64 a, .int .i64 b, u] := hr
      have key : Hid (∀ (w2 : World) a2 c2, w2.ownsRow wr.heap.size 2 1 (.slice a2 L.length c2) L.length (L.map encI) → Below wr.heap.size wr w2 →
          w2.there w.heap.size 0 (Z.length * 4) ∧ ∀ o w5, o = k * 4 → w2.setCells w.heap.size o [.string s, .int .i64 a, .int .i64 b, .slice a2 L.length c2] = w5 → Hid (OwnC w.heap.size w5.heap.size w5 w.heap.size Z.length (Z.take (k + 1)) (us ++ [.slice a2 L.length c2])) ∧ Below w.heap.size w w5) := Lib.hid (fun w2 a2 c2 ho hb2 => by
        have h1 := hO2.out.kept hb2
        refine ⟨h1.th, fun o w5 ho5 hw5 => ?_⟩
        subst ho5
        have h2 := OwnC.snoc (x := ⟨s, a, b, L⟩) (u := .slice a2 L.length c2) hO2.out (by rw [cts_take_len hk]; exact hlt) hb2 ho hinn (k * 4) (by rw [cts_take_len hk])
        have hw6 : w2.setCells w.heap.size (k * 4) (Ct.cells ⟨s, a, b, L⟩ (.slice a2 L.length c2)) = w5 := hw5
        rw [hw6] at h2
        refine ⟨Lib.hid (by rw [htk]; exact h2), ?_⟩
        rw [← hw5]
        exact below_sets (Nat.le_refl _) _ _ _ (below2 hb hb2))
      have hk4 : Hid ((k : Int).toNat * 4 = k * 4) := Lib.hid (by simp)
      clear hx hc hu hui hui2 htk htc hr
      go_wp2_with (first
        | (refine wpList_load_mid rfl _ _ rfl g (o + k * 4) rfl _ _ hr' Try.underlying42 rfl rfl ?_)
        | (go_at_call 31; (with_reducible refine cT.out.mono ?_); rintro e w2 ⟨u2, rfl, ho, b2⟩; obtain ⟨a2, c2, rfl⟩ := ownShape ho; obtain ⟨th2, key2⟩ := key.out w2 a2 c2 ho b2; clear ho b2)
        | (refine wpList_store_mid rfl _ _ _ rfl _ _ _ rfl rfl ?_ sizeCt (oneCt _ _ _ _ _ _) ?_; (exact there_part th2 _ 4 (by omega)); generalize hW : World.setCells _ _ _ _ = w5; (have H := key2 _ w5 (by omega) hW); clear hW; obtain ⟨hO5, hb5⟩ := H))
      clear hO2 hb
      go_wp2
      go_roundw
      case rel => exact ⟨k + 1, _, by omega, by go_num, hO5, hb5⟩
      case measure => simp [intOf]; omega
    · obtain rfl : k = Z.length := by omega
      have hfin := hO2.out
      rw [List.take_length] at hfin
      have hfin' := Lib.hid hfin
      have hat := Lib.hid (hfin.at (cap := Z.length) (Nat.le_refl _) hids'.out)
      clear hfin hO2
      go_wp2
      go_ret
      exact ⟨us, rfl, hfin'.out, hat.out, hb⟩
theorem toCoatS_any (v : Value) (Z : List Ct) (w : World) (hn : Z.length + totC Z ≤ 1048576) (hv : CtsAt w v Z) : Calls Try.prog 15 #[v] w fun e w' => ∃ v', e = .returned v' ∧ CtsAt w' v' Z ∧ Below w.heap.size w w' :=
  (toCoatS_new v Z w hn hv).mono fun _ _ ⟨_, h1, _, h3, h4⟩ => ⟨_, h1, h3, h4⟩
set_option maxHeartbeats 1600000 in
theorem eqCoatS_any (v v' : Value) (Z : List Ct) (w : World) (hn : Z.length + totC Z ≤ 1048576) (h1 : CtsAt w v Z) (h2 : CtsAt w v' Z) : Calls Try.prog 17 #[v, v'] w fun e w' => e = .returned (.bool true) ∧ Below w.heap.size w w' := by
  obtain ⟨p, cap, rfl, hcap, _, hread⟩ := h1
  obtain ⟨p', cap', rfl, hcap', _, hread'⟩ := h2
  have hr1 := Lib.hid hread
  have hr2 := Lib.hid hread'
  have hnn : Z.length ≤ 1048576 := by omega
  have hn' := Lib.hid hn
  clear hread hread' hn
  go_enter Try.func17, Try.ntmps17
  go_wp2
  go_loopw [5] (fun i wr => ∃ j : Nat, j ≤ Z.length ∧ i = .int .i64 j ∧ Below w.heap.size w wr) (fun i _ => Z.length - (intOf i).toNat)
  case atStart => exact ⟨0, by omega, rfl, Below.refl _ _⟩
  case round =>
    obtain ⟨j, hj, rfl, hb⟩ := hrel
    by_cases hlt : j < Z.length
    · rcases hr1.out with h | ⟨g, o, rfl, hg, hc⟩
      · subst h; simp at hlt
      rcases hr2.out with h | ⟨g', o', rfl, hg', hc'⟩
      · subst h; simp at hlt
      obtain ⟨x, hx⟩ : ∃ x, x = Z[j] := ⟨_, rfl⟩
      obtain ⟨u, hu, hui⟩ := hc j hlt
      obtain ⟨u', hu', hui'⟩ := hc' j hlt
      have htc : Z[j].col.length ≤ totC Z := totC_ge (List.getElem_mem hlt)
      have q1 := range_below hu hg hb
      have q2 := range_below hu' hg' hb
      have i1 := hui.below hb
      have i2 := hui'.below hb
      rw [← hx] at q1 q2 i1 i2 htc
      have hgr : g < wr.heap.size := Nat.lt_of_lt_of_le hg hb.size
      have hgr' : g' < wr.heap.size := Nat.lt_of_lt_of_le hg' hb.size
      have P1 := (ctAt_of q1 i1).1
      have P2 := (ctAt_of q2 i2).1
      have hL : x.col.length ≤ 1048576 := Nat.le_trans htc (by have := hn'.out; omega)
      obtain ⟨s, a, b, L⟩ := x
      have cE := Lib.hid (fun (W : World) (hb : Below wr.heap.size wr W) => eqCoat_any s a b u u' L hL W (i1.below hb) (i2.below hb))
      clear hx hc hc' q1 q2 hu hu' hui hui' i1 i2 htc hL
      have keep : ∀ W1 W2, (((W1.cell? ⟨g, o + j * 4, none⟩ = some (.string s) ∧ W1.cell? ⟨g, o + j * 4 + 1, none⟩ = some (.int .i64 a) ∧ W1.cell? ⟨g, o + j * 4 + 2, none⟩ = some (.int .i64 b) ∧ W1.cell? ⟨g, o + j * 4 + 3, none⟩ = some u) ∧ (W1.cell? ⟨g', o' + j * 4, none⟩ = some (.string s) ∧ W1.cell? ⟨g', o' + j * 4 + 1, none⟩ = some (.int .i64 a) ∧ W1.cell? ⟨g', o' + j * 4 + 2, none⟩ = some (.int .i64 b) ∧ W1.cell? ⟨g', o' + j * 4 + 3, none⟩ = some u')) ∧ Below wr.heap.size wr W1) → Below W1.heap.size W1 W2 → (((W2.cell? ⟨g, o + j * 4, none⟩ = some (.string s) ∧ W2.cell? ⟨g, o + j * 4 + 1, none⟩ = some (.int .i64 a) ∧ W2.cell? ⟨g, o + j * 4 + 2, none⟩ = some (.int .i64 b) ∧ W2.cell? ⟨g, o + j * 4 + 3, none⟩ = some u) ∧ (W2.cell? ⟨g', o' + j * 4, none⟩ = some (.string s) ∧ W2.cell? ⟨g', o' + j * 4 + 1, none⟩ = some (.int .i64 a) ∧ W2.cell? ⟨g', o' + j * 4 + 2, none⟩ = some (.int .i64 b) ∧ W2.cell? ⟨g', o' + j * 4 + 3, none⟩ = some u')) ∧ Below wr.heap.size wr W2) := fun W1 W2 h1 h2 => by
        obtain ⟨⟨⟨p0, p1, p2, p3⟩, ⟨r0, r1, r2, r3⟩⟩, hb⟩ := h1
        have e1 : g < W1.heap.size := Nat.lt_of_lt_of_le hgr hb.size
        have e2 : g' < W1.heap.size := Nat.lt_of_lt_of_le hgr' hb.size
        exact ⟨⟨⟨(bcell h2 _ _ e1).trans p0, (bcell h2 _ _ e1).trans p1, (bcell h2 _ _ e1).trans p2, (bcell h2 _ _ e1).trans p3⟩, ⟨(bcell h2 _ _ e2).trans r0, (bcell h2 _ _ e2).trans r1, (bcell h2 _ _ e2).trans r2, (bcell h2 _ _ e2).trans r3⟩⟩, hb.trans (h2.mono hb.size)⟩
      have keepH := Lib.hid keep
      have hS : (((wr.cell? ⟨g, o + j * 4, none⟩ = some (.string s) ∧ wr.cell? ⟨g, o + j * 4 + 1, none⟩ = some (.int .i64 a) ∧ wr.cell? ⟨g, o + j * 4 + 2, none⟩ = some (.int .i64 b) ∧ wr.cell? ⟨g, o + j * 4 + 3, none⟩ = some u) ∧ (wr.cell? ⟨g', o' + j * 4, none⟩ = some (.string s) ∧ wr.cell? ⟨g', o' + j * 4 + 1, none⟩ = some (.int .i64 a) ∧ wr.cell? ⟨g', o' + j * 4 + 2, none⟩ = some (.int .i64 b) ∧ wr.cell? ⟨g', o' + j * 4 + 3, none⟩ = some u')) ∧ Below wr.heap.size wr wr) := ⟨⟨P1, P2⟩, Below.refl _ _⟩
      clear keep P1 P2
      have hltI : (j : Int) < (Z.length : Int) := by omega
      go_wp2
      go_region_held3 (fun w' => (((w'.cell? ⟨g, o + j * 4, none⟩ = some (.string s) ∧ w'.cell? ⟨g, o + j * 4 + 1, none⟩ = some (.int .i64 a) ∧ w'.cell? ⟨g, o + j * 4 + 2, none⟩ = some (.int .i64 b) ∧ w'.cell? ⟨g, o + j * 4 + 3, none⟩ = some u) ∧ (w'.cell? ⟨g', o' + j * 4, none⟩ = some (.string s) ∧ w'.cell? ⟨g', o' + j * 4 + 1, none⟩ = some (.int .i64 a) ∧ w'.cell? ⟨g', o' + j * 4 + 2, none⟩ = some (.int .i64 b) ∧ w'.cell? ⟨g', o' + j * 4 + 3, none⟩ = some u')) ∧ Below wr.heap.size wr w'))
        (first | exact ⟨hS.1, belowN hS.2 1⟩ | exact keepH.out _ _ (by assumption) (by assumption) | assumption)
        (first | (go_at_call 33; (with_reducible refine (cE.out _ (And.right (by assumption))).mono ?_); rintro e w' ⟨rfl, hbel⟩))
      rename_i hHeld
      have hb2 := below2 hb hHeld.2
      clear hS keepH hHeld
      go_wp2
      go_roundw
      case rel => exact ⟨j + 1, by omega, by go_num, hb2⟩
      case measure => simp [intOf]; omega
    · go_wp2
      go_ret
      exact ⟨rfl, hb⟩
end Go.Proofs.Ytjnpladpegmiiaa
