/-
  Contracts of ReadDecimal: the program's, over the library's ParseInt.
-/
import Derived.Test.YtcgmpomhklhmaaaDoorRead
import Derived.Test.YtcgmpomhklhmaaaDoorTabs
import Derived.Lib.ParseIntBTie
import Derived.Lib.AtoiErrMem
import Derived.Shelf.Strconv.ErrVarParseInt
namespace Go.Proofs.YtcgmpomhklhmaaaDoor
open Go.ChangeShapes Go.WideShapes Go.ChangeAt Go.RowKit Go.Sort
set_option linter.unusedVariables false
set_option linter.unusedSimpArgs false
/-- the library's two errors are there -/
def ErrsAt (w : World) : Prop := ∃ tp p tq q, w.var? Tryd.prog "strconv.ErrSyntax" = some #[.iface tp p] ∧ w.var? Tryd.prog "strconv.ErrRange" = some #[.iface tq q]
theorem ErrsAt.below {w w' : World} (h : ErrsAt w) (hb : Below w.heap.size w w') : ErrsAt w' := by
  obtain ⟨tp, p, tq, q, h1, h2⟩ := h
  exact ⟨tp, p, tq, q, var_below hb h1, var_below hb h2⟩
theorem parse_ok (s : ByteArray) (hs : s.size ≤ 1048576) (v : Int) (h : Lib.parseIntB 64 s.data.toList = .ok v) (w : World) :
    Calls Tryd.prog 57 #[.string s, .int .i64 10, .int .i64 64] w fun e w' => e = .returned (.tuple #[.int .i64 v, .nilIface]) ∧ Below w.heap.size w w' :=
  (Any.strconv_ParseInt_10_at64_ok Tryd.laysC174 s (by omega) v h w).mono fun e w' ⟨he, hw⟩ => ⟨he, by
    rcases hw with rfl | ⟨t, rfl⟩
    · exact Below.refl _ _
    · exact Lib.bytesWorld_below _ _ _⟩
theorem parse_bad (s : ByteArray) (hs : s.size ≤ 1048576) (h : ∀ v, Lib.parseIntB 64 s.data.toList ≠ .ok v) (w : World) (hE : ErrsAt w) :
    Calls Tryd.prog 57 #[.string s, .int .i64 10, .int .i64 64] w fun e w' => ∃ (n : Int) (t : TypeId) (N : Nat), e = .returned (.tuple #[.int .i64 n, .iface t (.pointer (some ⟨N, 0, none⟩))]) ∧ Below w.heap.size w w' := by
  obtain ⟨tp, p, tq, q, h1, h2⟩ := hE
  cases hp : Lib.parseIntB 64 s.data.toList with
  | ok v => exact absurd hp (h v)
  | _ =>
    first
    | exact (Any.strconv_ParseInt_10_at64_syntax_var Tryd.laysC174 s (by omega) hp tp p w h1).mono fun e w' ⟨N, he, _, _, hb⟩ => ⟨_, _, N, he, hb⟩
    | exact (Any.strconv_ParseInt_10_at64_range_var Tryd.laysC174 s (by omega) hp tq q w h2).mono fun e w' ⟨N, he, _, _, hb⟩ => ⟨_, _, N, he, hb⟩

theorem trim_any (s : ByteArray) (w : World) : Calls Tryd.prog 56 #[.string s, .string ⟨#[45]⟩] w fun e w' => (∃ S : ByteArray, e = .returned (.string S) ∧ S.size = (s.data.toList.drop (atD s.data.toList)).length) ∧ w = w' :=
  (Tryd.strings_TrimPrefix s ⟨#[45]⟩ w).mono fun e w' ⟨he, hw⟩ => ⟨⟨_, he, by
    show (Lib.trimPrefix s.data.toList [45]).toArray.size = _
    rw [trim_at, List.size_toArray]⟩, hw.symm⟩

set_option maxHeartbeats 1600000 in
theorem implReadDecimal_any (s : ByteArray) (w : World) (hs : s.size ≤ 1048576) (hT : TabP w) (hE : ErrsAt w) :
    Calls Tryd.prog 42 #[.string s] w fun e w' => e = .returned (optV (readD s.data.toList)) ∧ Below w.heap.size w w' := by
  obtain ⟨M, hM⟩ : ∃ M, M = (s.data.toList.drop (atD s.data.toList)).length := ⟨_, rfl⟩
  have hct := trim_any s w
  rw [← hM] at hct
  have hM' := Lib.hid hM
  clear hM
  by_cases hlong : 18 < M
  · have hr : Hid (optV (readD s.data.toList) = .tuple #[.int .i64 0, .bool false]) := Lib.hid (by rw [readD_bad (Or.inr (Or.inl (by rw [← hM'.out]; exact hlong)))]; rfl)
    go_enter Tryd.func42, Tryd.ntmps42
    go_wp2_with (go_at_call 56; refine hct.mono ?_; rintro e w' ⟨⟨S, rfl, hS⟩, rfl⟩; have hS18 : 18 < S.size := (by omega); clear hS)
    go_ret2
    exact ⟨congrArg Ending.returned hr.out.symm, Below.refl _ _⟩
  by_cases hok : ∃ v, Lib.parseIntB 64 s.data.toList = .ok v
  rotate_left
  · have hno : readD s.data.toList = none := by
      cases e : readD s.data.toList with
      | none => rfl
      | some n => exact absurd ⟨n, (readD_some e).2⟩ hok
    have hr : Hid (optV (readD s.data.toList) = .tuple #[.int .i64 0, .bool false]) := Lib.hid (by rw [hno]; rfl)
    have hpb := parse_bad s hs (fun v h => hok ⟨v, h⟩) w hE
    clear hok hno
    go_enter Tryd.func42, Tryd.ntmps42
    go_wp2_with (go_at_call 56; refine hct.mono ?_; rintro e w' ⟨⟨S, rfl, hS⟩, rfl⟩; have hS18 : S.size ≤ 18 := (by omega); clear hS)
    refine hpb.mono ?_
    rintro e w1 ⟨n, t, N, rfl, hb⟩
    go_wp2
    go_ret2
    exact ⟨congrArg Ending.returned hr.out.symm, hb⟩
  · obtain ⟨v, hv⟩ := hok
    have hpo := parse_ok s hs v hv w
    have hbd := Lib.parseIntB_bounds hv
    have hv' := Lib.hid hv
    have b0 : -9223372036854775808 ≤ v := by have := hbd.1; omega
    have b1 : v ≤ 9223372036854775807 := by have := hbd.2; omega
    have hM18 : M ≤ 18 := by omega
    obtain ⟨D, hD⟩ : ∃ D : ByteArray, D = ⟨(Lib.itoa v).toArray⟩ := ⟨_, rfl⟩
    have hcd := fun W (h : TabP W) => implDecimal_any v b0 b1 W h
    rw [← hD] at hcd
    have hD' := Lib.hid hD
    have hcd' := Lib.hid hcd
    clear hv hbd hD hcd
    by_cases heq : D = s
    · have hr : Hid (optV (readD s.data.toList) = .tuple #[.int .i64 v, .bool true]) := Lib.hid (by
        have hl : s.data.toList = Lib.itoa v := by rw [← heq, hD'.out]
        rw [hl, readD_itoa v (by rw [← hl, ← hM'.out]; exact hM18)]; rfl)
      subst heq
      go_enter Tryd.func42, Tryd.ntmps42
      go_wp2_with (go_at_call 56; refine hct.mono ?_; rintro e w' ⟨⟨S, rfl, hS⟩, rfl⟩; have hS18 : S.size ≤ 18 := (by omega); clear hS)
      refine hpo.mono ?_
      rintro e w1 ⟨rfl, hb1⟩
      go_wp2_with fail
      refine (hcd'.out _ (hT.below hb1)).mono ?_
      rintro e w2 ⟨rfl, hb2⟩
      have hb := hb1.trans (hb2.mono hb1.size)
      clear hb1 hb2
      go_wp2
      go_ret2
      exact ⟨congrArg Ending.returned hr.out.symm, hb⟩
    · have hno : readD s.data.toList = none := by
        cases e : readD s.data.toList with
        | none => rfl
        | some n =>
          obtain ⟨e1, e2⟩ := readD_some e
          have : n = v := by have := e2.symm.trans hv'.out; injection this
          subst this
          exact absurd (by rw [hD'.out]; exact (bytes_of s _ e1.symm).symm) heq
      have hr : Hid (optV (readD s.data.toList) = .tuple #[.int .i64 0, .bool false]) := Lib.hid (by rw [hno]; rfl)
      have hne : (D.toList == s.toList) = false := by
        rw [beq_eq_false_iff_ne]; intro h
        rw [ByteArray.toList_eq, ByteArray.toList_eq] at h
        exact heq ((bytes_of D _ h).trans (bytes_of s _ rfl).symm)
      clear hno
      go_enter Tryd.func42, Tryd.ntmps42
      go_wp2_with (go_at_call 56; refine hct.mono ?_; rintro e w' ⟨⟨S, rfl, hS⟩, rfl⟩; have hS18 : S.size ≤ 18 := (by omega); clear hS)
      refine hpo.mono ?_
      rintro e w1 ⟨rfl, hb1⟩
      go_wp2_with fail
      refine (hcd'.out _ (hT.below hb1)).mono ?_
      rintro e w2 ⟨rfl, hb2⟩
      have hb := hb1.trans (hb2.mono hb1.size)
      clear hb1 hb2
      go_wp2
      go_ret2
      exact ⟨congrArg Ending.returned hr.out.symm, hb⟩

/-- the one row of that name -/
theorem errRow (u : TypeId) (h : Tryd.prog.typeName? 3 u = some "*errors.errorString") : u = 125 :=
  typeName_ptr_named (nm := "errors.errorString") (by rw [show "*" ++ "errors.errorString" = "*errors.errorString" by decide]; kernel_rfl) (by kernel_rfl) (by decide) u (by rw [show "*" ++ "errors.errorString" = "*errors.errorString" by decide]; exact h)
theorem gSyn : Tryd.prog.globalNamed "strconv.ErrSyntax" = some 2 := by kernel_rfl
theorem gRng : Tryd.prog.globalNamed "strconv.ErrRange" = some 3 := by kernel_rfl
theorem gSynT : (Tryd.prog.globals[2]?).map (·.type) = some 69 := by kernel_rfl
theorem gRngT : (Tryd.prog.globals[3]?).map (·.type) = some 69 := by kernel_rfl
theorem errs_of_laid {W : World} {rest : List (String × DataW Unit)} {t1 t2 : List UInt8}
    (h : laidMet Tryd.prog (("strconv.ErrRange", .iface "*errors.errorString" (.ptr (.agg [.lit (.string t1)]))) :: ("strconv.ErrSyntax", .iface "*errors.errorString" (.ptr (.agg [.lit (.string t2)]))) :: rest) W) : ErrsAt W := by
  obtain ⟨a0, s0, hv0, _, _, _⟩ := laid_sentinel (g := 3) h gRng gRngT Tryd.underlying69 errRow Tryd.underlying125 Tryd.underlying127 rfl rfl Tryd.underlying9 (by kernel_rfl) (by kernel_rfl)
  obtain ⟨a1, s1, hv1, _, _, _⟩ := laid_sentinel (g := 2) h.tail gSyn gSynT Tryd.underlying69 errRow Tryd.underlying125 Tryd.underlying127 rfl rfl Tryd.underlying9 (by kernel_rfl) (by kernel_rfl)
  exact ⟨_, _, _, _, hv1, hv0⟩
end Go.Proofs.YtcgmpomhklhmaaaDoor
