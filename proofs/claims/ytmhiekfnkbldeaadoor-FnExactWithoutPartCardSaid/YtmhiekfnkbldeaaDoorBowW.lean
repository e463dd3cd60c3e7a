/-
  Bows: a bow without a part; the model's side.
-/
import Derived.Test.YtmhiekfnkbldeaaDoorBowM
import Derived.Test.YtmhiekfnkbldeaaDoorPrtsO
import Derived.OwnWalk
import Derived.Test.YtmhiekfnkbldeaaDoorIntRow
namespace Go.Proofs.YtmhiekfnkbldeaaDoor
open Go.ChangeShapes Go.WideShapes Go.ChangeAt Go.RowKit Go.Deep
set_option linter.unusedVariables false
set_option linter.unusedSimpArgs false
set_option maxRecDepth 1000000
/-- what stays of a bow without the part with the Id -/
def cutV (Z : List Prt) (k : Nat) : List Prt := Z.take k ++ Z.drop (k + 1)
def woV (Z : List Prt) (u : ByteArray) : List Prt := if bowB Z = true ∧ fdN (idP Z u) Z.length < Z.length ∧ Z.length ≠ 1 then cutV Z (fdN (idP Z u) Z.length) else []
def woC (Z : List Prt) (u : ByteArray) : Int := if bowB Z = true then (if fdN (idP Z u) Z.length < Z.length then (if Z.length = 1 then 6 else 0) else 3) else 1
theorem wo_1 {Z : List Prt} {u : ByteArray} (h : bowB Z = false) : woV Z u = [] ∧ woC Z u = 1 := by
  unfold woV woC; rw [h]; exact ⟨if_neg (fun h => by cases h.1), if_neg (by decide)⟩
theorem wo_3 {Z : List Prt} {u : ByteArray} (h : bowB Z = true) (hf : ¬ fdN (idP Z u) Z.length < Z.length) : woV Z u = [] ∧ woC Z u = 3 := by
  unfold woV woC; exact ⟨if_neg (fun h => hf h.2.1), by rw [if_pos h, if_neg hf]⟩
theorem wo_6 {Z : List Prt} {u : ByteArray} (h : bowB Z = true) (hf : fdN (idP Z u) Z.length < Z.length) (h1 : Z.length = 1) : woV Z u = [] ∧ woC Z u = 6 := by
  unfold woV woC; exact ⟨if_neg (fun h => h.2.2 h1), by rw [if_pos h, if_pos hf, if_pos h1]⟩
theorem wo_0 {Z : List Prt} {u : ByteArray} (h : bowB Z = true) (hf : fdN (idP Z u) Z.length < Z.length) (h1 : Z.length ≠ 1) : woV Z u = cutV Z (fdN (idP Z u) Z.length) ∧ woC Z u = 0 := by
  unfold woV woC; exact ⟨if_pos ⟨h, hf, h1⟩, by rw [if_pos h, if_pos hf, if_neg h1]⟩
theorem cutV_len {Z : List Prt} {k : Nat} (hk : k < Z.length) : (cutV Z k).length = k + (Z.length - (k + 1)) := by
  unfold cutV; rw [List.length_append, List.length_take, List.length_drop]; omega
theorem woV_len (Z : List Prt) (u : ByteArray) : (woV Z u).length ≤ Z.length := by
  unfold woV
  split
  · next h => rw [cutV_len h.2.1]; omega
  · exact Nat.zero_le _
theorem cutV_flat (Z : List Prt) (k : Nat) : prt_flat (cutV Z k) = prt_flat (Z.take k) ++ prt_flat (Z.drop (k + 1)) := by unfold cutV prt_flat; rw [List.flatMap_append]
theorem cutV_ids {Z : List Prt} {k : Nat} (h : ∀ x ∈ Z, x.id.size ≤ maxLen) : ∀ x ∈ cutV Z k, x.id.size ≤ maxLen := fun x hx => by
  unfold cutV at hx
  rcases List.mem_append.1 hx with h1 | h1
  · exact h x (List.mem_of_mem_take h1)
  · exact h x (List.mem_of_mem_drop h1)
theorem prts_src {Z : List Prt} {w : World} {gg oo : Nat} (hcc : ∀ i (hi : i < Z.length), w.rangeAt gg (oo + i * 3) Z[i].cells) : ∀ j v, (prt_flat Z)[j]? = some v → w.cell? ⟨gg, oo + j, none⟩ = some v := fun j v hv => by
  have hj : j < Z.length * 3 := by have := (List.getElem?_eq_some_iff.1 hv).1; rwa [prt_flat_len] at this
  have hi : j / 3 < Z.length := by omega
  have h1 := prt_flat_get Z (j / 3) hi (j % 3) (Nat.mod_lt _ (by omega))
  rw [show j / 3 * 3 + j % 3 = j by omega, hv] at h1
  have h2 := hcc (j / 3) hi (j % 3) v h1.symm
  rwa [show oo + j / 3 * 3 + j % 3 = oo + j by omega] at h2
theorem prt_flat_split (Z : List Prt) (k : Nat) : prt_flat Z = prt_flat (Z.take k) ++ prt_flat (Z.drop k) := by
  unfold prt_flat; rw [← List.flatMap_append, List.take_append_drop]
theorem prts_take {Z : List Prt} {k : Nat} (hk : k ≤ Z.length) : ∀ (j : Nat) (v : Value), (prt_flat (Z.take k))[j]? = some v → (prt_flat Z)[j]? = some v := fun j v hv => by
  have hj := (List.getElem?_eq_some_iff.1 hv).1
  rw [prt_flat_split Z k, List.getElem?_append_left hj]; exact hv
theorem prts_drop {Z : List Prt} {k : Nat} (hk : k ≤ Z.length) : ∀ (j : Nat) (v : Value), (prt_flat (Z.drop k))[j]? = some v → (prt_flat Z)[k * 3 + j]? = some v := fun j v hv => by
  have hl : (prt_flat (Z.take k)).length = k * 3 := by rw [prt_flat_len, List.length_take]; congr 1; omega
  rw [prt_flat_split Z k, List.getElem?_append_right (by rw [hl]; omega), hl, show k * 3 + j - k * 3 = j by omega]; exact hv
theorem prts_oneC (Z : List Prt) : ∀ v ∈ prt_flat Z, v.oneCell' = true := fun v hv => by
  unfold prt_flat at hv
  obtain ⟨x, _, hx⟩ := List.mem_flatMap.1 hv
  simp only [Prt.cells, List.mem_cons, List.not_mem_nil, or_false] at hx
  rcases hx with rfl | rfl | rfl <;> rfl
theorem add_plainW (g o j : Nat) : (⟨g, o, none⟩ : Addr).add j = ⟨g, o + j, none⟩ := by simp [Addr.add]
theorem rowW_start (w : World) : (w.alloc (.cells #[] 43)).ownsRow w.heap.size 43 3 (.slice (some ⟨w.heap.size, 0, none⟩) 0 0) 0 [] :=
  ⟨rfl, Or.inr ⟨w.heap.size, 0, #[], rfl, Nat.le_refl _, heap_alloc_new _ _, Nat.le_refl 0, by unfold maxLen; omega, rfl, rfl⟩⟩
theorem prt_ofRow {B n : Nat} {v : Value} {Y : List Prt} {w : World} {xs : List Value} (h : w.ownsRow B 43 3 v n xs) (hxs : xs = prt_flat Y) (hn : n = Y.length) (h0 : 0 < Y.length) (hids : ∀ x ∈ Y, x.id.size ≤ maxLen) : OwnPrt B v Y w := by
  subst hxs; subst hn
  have h9 := h
  rcases h.2 with ⟨_, hz⟩ | ⟨g, capv, cur, rfl, hg, hh, hnn, hcp, hs, hx⟩
  · omega
  · have hlt := (h9.lt g rfl).2
    refine ⟨⟨_, capv, rfl, hnn, hids, Or.inr ⟨g, 0, rfl, hlt, fun i hi j u hu => ?_⟩⟩, Or.inr ⟨g, capv, rfl, hg, hlt, there_own h9⟩⟩
    have hj : j < 3 := by have := (List.getElem?_eq_some_iff.1 hu).1; rwa [prt_cellsN] at this
    have hu2 := (prt_flat_get Y i hi j hj).trans hu
    rw [Nat.zero_add]
    exact (h9.cellAt _ (by have := (List.getElem?_eq_some_iff.1 hu2).1; rwa [prt_flat_len] at this)).trans hu2
set_option maxHeartbeats 3200000 in
theorem specWithoutPart_any (v : Value) (Z : List Prt) (u : ByteArray) (w : World) (hn : Z.length ≤ 1048576) (hv : PrtsAt w v Z) : Calls Tryd.prog 13 #[v, .string u] w (RowPrt (woV Z u) (woC Z u) w) := by
  have cV := l11Ok_any v Z w hn hv
  cases h1 : bowB Z <;> rw [h1] at cV <;> replace cV := Lib.hid cV
  · have hr := Lib.hid (wo_1 (u := u) h1)
    go_enter Tryd.func13, Tryd.ntmps13
    go_wp2_with (go_at_call 18; (with_reducible refine cV.out.mono ?_); rintro e w1 ⟨rfl, b1⟩)
    go_ret2
    exact prt_rowNil hr.out.1 hr.out.2 b1.below
  have h12 := (bow_0 h1).2.1
  have h00 := (bow_0 h1).1
  have hv' := Lib.hid hv
  obtain ⟨p9, cap9, rfl, hcap9, hids9, hread9⟩ := hv
  have cF0 := fun W (hd : DrewOf w W) => l11Find_any _ Z u W hn (hv'.out.below hd.below)
  by_cases hf : fdN (idP Z u) Z.length < Z.length
  rotate_left
  · have hr := Lib.hid (wo_3 h1 hf)
    rw [show fdI Z u = -1 from if_neg hf] at cF0
    have cF := Lib.hid cF0
    clear hf cF0 h1 hread9
    go_enter Tryd.func13, Tryd.ntmps13
    go_wp2_with (first
      | (go_at_call 18; (with_reducible refine cV.out.mono ?_); rintro e w1 ⟨rfl, b1⟩)
      | (go_at_call 30; (with_reducible refine (cF.out _ b1).mono ?_); rintro e w2 ⟨rfl, b2⟩))
    go_ret2
    exact prt_rowNil hr.out.1 hr.out.2 (b1.trans b2).below
  rw [show fdI Z u = ((fdN (idP Z u) Z.length : Nat) : Int) from if_pos hf] at cF0
  by_cases hz : Z.length = 1
  · have hr := Lib.hid (wo_6 h1 hf hz)
    obtain ⟨k, hk⟩ : ∃ k, k = fdN (idP Z u) Z.length := ⟨_, rfl⟩
    rw [← hk] at cF0 hf
    have cF := Lib.hid cF0
    rw [hz] at cF cV ⊢
    clear hk cF0 h1 hread9
    go_enter Tryd.func13, Tryd.ntmps13
    go_wp2_with (first
      | (go_at_call 18; (with_reducible refine cV.out.mono ?_); rintro e w1 ⟨rfl, b1⟩)
      | (go_at_call 30; (with_reducible refine (cF.out _ b1).mono ?_); rintro e w2 ⟨rfl, b2⟩))
    go_ret2
    exact prt_rowNil hr.out.1 hr.out.2 (b1.trans b2).below
  have hr0 := wo_0 h1 hf hz
  obtain ⟨k, hk⟩ : ∃ k, k = fdN (idP Z u) Z.length := ⟨_, rfl⟩
  rw [← hk] at cF0 hf hr0
  have hr := Lib.hid hr0
  have cF := Lib.hid cF0
  rcases hread9 with h | ⟨g0, o, rfl, hg0, hc⟩
  · subst h; simp at h00
  obtain ⟨i0, hi, hz0, hz1, hz2⟩ := info_parts infoPrt
  have hsr := Lib.hid (prts_src hc)
  have hids := Lib.hid hids9
  have hlen1 : ((Z.length : Int) == 1) = false := beq_eq_false_iff_ne.2 (by omega)
  clear hk cF0 h1 hr0 hc hids9
  go_enter Tryd.func13, Tryd.ntmps13
  go_wp2_with (first
      | (go_at_call 18; (with_reducible refine cV.out.mono ?_); rintro e w1 ⟨rfl, b1⟩)
      | (go_at_call 30; (with_reducible refine (cF.out _ b1).mono ?_); rintro e w2 ⟨rfl, b2⟩; have b12 := (b1.trans b2).below)
      | (at_builtin; refine wpList_append_own _ rfl _ _ 26 rfl w.heap.size 43 i0 _ 3 32 Tryd.underlying26 hi hz0 hz1 hz2 rfl (by decide) _ 0 [] rfl (own_low (rowW_start w2) b12.size) ⟨g0, o, none⟩ k cap9 (prt_flat (Z.take k)) rfl (by rw [prt_flat_len, List.length_take]; congr 1; omega) ?c1A (prts_oneC _) ?c3A ?c4A ?c5A ?_))
  case c1A => intro j u hj; rw [add_plainW]; exact (((b12.alloc b12.size _).cell (p := ⟨g0, _, none⟩) hg0).trans (hsr.out j u (prts_take (by omega) j u hj)))
  case c3A => unfold maxLen; omega
  case c4A => omega
  case c5A => have := b12.size; simp; omega
  intro v3 w3 hown hgr hnil
  have hb3 : Below w.heap.size w w3 := (b12.alloc b12.size (.cells #[] 43)).grown hgr (by have := b12.size; simp; omega) (fun k hk => by cases hk; exact b12.size)
  obtain ⟨g, capv, rfl⟩ : ∃ g capv, v3 = .slice (some ⟨g, 0, none⟩) k capv := by
    rcases hown.2 with ⟨h, _⟩ | ⟨g, capv, cur, h, _⟩
    · exact absurd h hnil
    · exact ⟨g, capv, by simpa using h⟩
  clear hgr hnil b12 b1 b2 cV
  by_cases hck : cap9 = k + 1
  · have hzk : Z.length - (k + 1) = 0 := by omega
    have hdn : prt_flat (Z.drop (k + 1)) = [] := List.eq_nil_of_length_eq_zero (by rw [prt_flat_len, List.length_drop, hzk])
    go_wp2_with (at_builtin; refine wpList_append_own _ rfl _ _ 26 rfl w.heap.size 43 i0 _ 3 32 Tryd.underlying26 hi hz0 hz1 hz2 rfl (by decide) _ k _ rfl hown ⟨g0, _, none⟩ 0 _ [] rfl rfl ?c1B (fun _ h => by cases h) ?c3B ?c4B ?c5B ?_)
    case c1B => intro j u hj; cases hj
    case c3B => unfold maxLen; omega
    case c4B => omega
    case c5B => exact hb3.size
    intro v4 w4 hown4 hgr4 hnil4
    have hlt := (hown.lt g rfl)
    have hb4 : Below w.heap.size w w4 := hb3.grown hgr4 hb3.size (fun j hj => by cases hj; exact hlt.1)
    have hO : Hid (OwnPrt w.heap.size v4 (cutV Z k) w4) := Lib.hid (prt_ofRow hown4 (by rw [cutV_flat, hdn, List.append_nil]) (by rw [cutV_len hf]; omega) (by rw [cutV_len hf]; omega) (cutV_ids hids.out))
    have hb5 := Lib.hid hb4
    obtain ⟨g4, c4, rfl⟩ : ∃ g4 c4, v4 = .slice (some ⟨g4, 0, none⟩) (k + 0) c4 := by
      rcases hown4.2 with ⟨h, _⟩ | ⟨g4, c4, cur, h, _⟩
      · exact absurd h hnil4
      · exact ⟨g4, c4, h⟩
    clear hown4 hgr4 hnil4 hb4 hown hb3
    go_wp2
    go_ret2
    exact prt_rowMk hr.out.1 hr.out.2 (Nat.le_refl _) hO.out hb5.out
  · have hsr2 := Lib.hid (fun j u hj => hsr.out _ u (prts_drop (Z := Z) (k := k + 1) (by omega) j u hj))
    go_wp2_with (at_builtin; refine wpList_append_own _ rfl _ _ 26 rfl w.heap.size 43 i0 _ 3 32 Tryd.underlying26 hi hz0 hz1 hz2 rfl (by decide) _ k _ rfl hown ⟨g0, o + (k + 1) * 3, none⟩ (Z.length - (k + 1)) _ (prt_flat (Z.drop (k + 1))) rfl (by rw [prt_flat_len, List.length_drop]) ?c1B (prts_oneC _) ?c3B ?c4B ?c5B ?_)
    case c1B => intro j u hj; rw [add_plainW, show o + (k + 1) * 3 + j = o + ((k + 1) * 3 + j) by omega]; exact ((hb3.cell (p := ⟨g0, _, none⟩) hg0).trans (hsr2.out j u hj))
    case c3B => unfold maxLen; omega
    case c4B => omega
    case c5B => exact hb3.size
    intro v4 w4 hown4 hgr4 hnil4
    have hlt := (hown.lt g rfl)
    have hb4 : Below w.heap.size w w4 := hb3.grown hgr4 hb3.size (fun j hj => by cases hj; exact hlt.1)
    have hO : Hid (OwnPrt w.heap.size v4 (cutV Z k) w4) := Lib.hid (prt_ofRow hown4 (cutV_flat Z k).symm (cutV_len hf).symm (by rw [cutV_len hf]; omega) (cutV_ids hids.out))
    have hb5 := Lib.hid hb4
    obtain ⟨g4, c4, rfl⟩ : ∃ g4 c4, v4 = .slice (some ⟨g4, 0, none⟩) (k + (Z.length - (k + 1))) c4 := by
      rcases hown4.2 with ⟨h, _⟩ | ⟨g4, c4, cur, h, _⟩
      · exact absurd h hnil4
      · exact ⟨g4, c4, h⟩
    clear hown4 hgr4 hnil4 hb4 hown hb3
    go_wp2
    go_ret2
    exact prt_rowMk hr.out.1 hr.out.2 (Nat.le_refl _) hO.out hb5.out
end Go.Proofs.YtmhiekfnkbldeaaDoor
