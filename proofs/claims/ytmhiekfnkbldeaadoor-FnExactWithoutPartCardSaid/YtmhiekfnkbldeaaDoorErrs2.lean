/-
  The errors of a bow, as the cards list them, and their codes.
-/
import Derived.Test.YtmhiekfnkbldeaaDoorErrs
namespace Go.Proofs.YtmhiekfnkbldeaaDoor
open Go.ChangeShapes Go.WideShapes Go.ChangeAt Go.RowKit Go.Extern Go.Extern.Stop Go.Stop
set_option linter.unusedVariables false
set_option linter.unusedSimpArgs false
set_option maxRecDepth 1000000
/-- the variable g holds a sentinel at a -/
def Sen (w : World) (g : Nat) (a : Addr) : Prop := w.cell? ⟨g, 0, none⟩ = some (.iface 99 (.pointer (some a))) ∧ g < w.heap.size ∧ a.block < w.heap.size ∧ ∃ c ty, w.heap[a.block]? = some (.cells c ty (0, 0))
theorem Sen.below {w w' : World} {g : Nat} {a : Addr} (h : Sen w g a) (hb : Below w.heap.size w w') : Sen w' g a := by
  obtain ⟨h1, h2, h3, c, ty, h4⟩ := h
  exact ⟨(hb.cell (p := ⟨g, 0, none⟩) h2).trans h1, Nat.lt_of_lt_of_le h2 hb.size, Nat.lt_of_lt_of_le h3 hb.size, c, ty, (hb.block _ h3).trans h4⟩
/-- .. and its text -/
def SenT (w : World) (g : Nat) (a : Addr) (t : List UInt8) : Prop := Sen w g a ∧ ∃ s, w.cell? a = some (.string s) ∧ s.data.toList = t
theorem SenT.ne {w : World} {g g' : Nat} {a b : Addr} {t u : List UInt8} (h : SenT w g a t) (k : SenT w g' b u) (hne : t ≠ u) : a ≠ b := by
  rintro rfl
  obtain ⟨_, s, h1, h2⟩ := h
  obtain ⟨_, s', k1, k2⟩ := k
  rw [h1] at k1
  injection k1 with k1
  injection k1 with k1
  exact hne (by rw [← h2, ← k2, k1])
theorem errRowB (u : TypeId) (h : Tryd.prog.typeName? 3 u = some "*errors.errorString") : u = 99 :=
  typeName_ptr_named (nm := "errors.errorString") (by rw [show "*" ++ "errors.errorString" = "*errors.errorString" by decide]; kernel_rfl) (by kernel_rfl) (by decide) u (by rw [show "*" ++ "errors.errorString" = "*errors.errorString" by decide]; exact h)
theorem sen_pair {W : World} {n0 n1 : String} {g0 g1 : Nat} {t0 t1 : List UInt8} {r : List (String × DataW Unit)}
    (h : laidMet Tryd.prog ((n0, .iface "*errors.errorString" (.ptr (.agg [.lit (.string t0)]))) :: (n1, .iface "*errors.errorString" (.ptr (.agg [.lit (.string t1)]))) :: r) W)
    (hg0 : Tryd.prog.globalNamed n0 = some g0) (ht0 : (Tryd.prog.globals[g0]?).map (·.type) = some 47) (hg1 : Tryd.prog.globalNamed n1 = some g1) (ht1 : (Tryd.prog.globals[g1]?).map (·.type) = some 47) :
    ∃ a0 a1, SenT W g0 a0 t0 ∧ SenT W g1 a1 t1 := by
  obtain ⟨a0, a1, s0, s1, c0, c1, u0, u1, hv0, hv1, hc0, hs0, hz0, hc1, hs1, hz1, hne, hb0, hb1⟩ := laid_sentinels2 (g0 := g0) (g1 := g1) h hg0 ht0 hg1 ht1 Tryd.underlying47 errRowB Tryd.underlying99 Tryd.underlying125 rfl rfl Tryd.underlying9 (by kernel_rfl) (by kernel_rfl)
  have k0 : W.cell? ⟨g0, 0, none⟩ = some (.iface 99 (.pointer (some a0))) := by simpa using World.var?_cell hg0 hv0 0
  have k1 : W.cell? ⟨g1, 0, none⟩ = some (.iface 99 (.pointer (some a1))) := by simpa using World.var?_cell hg1 hv1 0
  exact ⟨a0, a1, ⟨⟨k0, World.block_lt_of_cell? W _ k0, (Array.getElem?_eq_some_iff.1 hb0).1, c0, u0, hb0⟩, s0, hc0, hs0⟩, ⟨⟨k1, World.block_lt_of_cell? W _ k1, (Array.getElem?_eq_some_iff.1 hb1).1, c1, u1, hb1⟩, s1, hc1, hs1⟩⟩
theorem g_errNoPart : Tryd.prog.globalNamed "loop.example/g01061/impl.errNoPart" = some 2 := by kernel_rfl
theorem gt_errNoPart : (Tryd.prog.globals[2]?).map (·.type) = some 47 := by kernel_rfl
theorem g_errNoMass : Tryd.prog.globalNamed "loop.example/g01061/impl.errNoMass" = some 0 := by kernel_rfl
theorem gt_errNoMass : (Tryd.prog.globals[0]?).map (·.type) = some 47 := by kernel_rfl
theorem g_errTooHeavy : Tryd.prog.globalNamed "loop.example/g01061/impl.errTooHeavy" = some 1 := by kernel_rfl
theorem gt_errTooHeavy : (Tryd.prog.globals[1]?).map (·.type) = some 47 := by kernel_rfl
theorem g_errTooFar : Tryd.prog.globalNamed "loop.example/g01061/impl.errTooFar" = some 3 := by kernel_rfl
theorem gt_errTooFar : (Tryd.prog.globals[3]?).map (·.type) = some 47 := by kernel_rfl
theorem g_errLastPart : Tryd.prog.globalNamed "loop.example/g01061/impl.errLastPart" = some 4 := by kernel_rfl
theorem gt_errLastPart : (Tryd.prog.globals[4]?).map (·.type) = some 47 := by kernel_rfl
/-- the three errors that codeOf asks for -/
def BowErr (w : World) (p m h : Addr) : Prop := (Sen w 2 p ∧ Sen w 0 m ∧ Sen w 1 h) ∧ p ≠ m ∧ p ≠ h ∧ m ≠ h
theorem BowErr.below {w w' : World} {p m h : Addr} (k : BowErr w p m h) (hb : Below w.heap.size w w') : BowErr w' p m h := ⟨⟨k.1.1.below hb, k.1.2.1.below hb, k.1.2.2.below hb⟩, k.2⟩
/-- .. and one that it does not ask for -/
def BowErrX (w : World) (g : Nat) (p m h x : Addr) : Prop := BowErr w p m h ∧ Sen w g x ∧ x ≠ p ∧ x ≠ m ∧ x ≠ h
theorem BowErrX.below {w w' : World} {g : Nat} {p m h x : Addr} (k : BowErrX w g p m h x) (hb : Below w.heap.size w w') : BowErrX w' g p m h x := ⟨k.1.below hb, k.2.1.below hb, k.2.2⟩
theorem bowErr3 {W : World} {r : List (String × DataW Unit)} {t0 t1 t2 : List UInt8}
    (h : laidMet Tryd.prog (("loop.example/g01061/impl.errNoPart", .iface "*errors.errorString" (.ptr (.agg [.lit (.string t0)]))) :: ("loop.example/g01061/impl.errNoMass", .iface "*errors.errorString" (.ptr (.agg [.lit (.string t1)]))) :: ("loop.example/g01061/impl.errTooHeavy", .iface "*errors.errorString" (.ptr (.agg [.lit (.string t2)]))) :: r) W) (h1 : t0 ≠ t1) (h2 : t0 ≠ t2) (h3 : t1 ≠ t2) : ∃ p m k, BowErr W p m k := by
  obtain ⟨p, m, s0, s1⟩ := sen_pair h g_errNoPart gt_errNoPart g_errNoMass gt_errNoMass
  obtain ⟨_, k, _, s2⟩ := sen_pair h.tail g_errNoMass gt_errNoMass g_errTooHeavy gt_errTooHeavy
  exact ⟨p, m, k, ⟨s0.1, s1.1, s2.1⟩, s0.ne s1 h1, s0.ne s2 h2, s1.ne s2 h3⟩
theorem bowErrF {W : World} {r : List (String × DataW Unit)} {t0 t1 t2 t3 : List UInt8}
    (h : laidMet Tryd.prog (("loop.example/g01061/impl.errNoPart", .iface "*errors.errorString" (.ptr (.agg [.lit (.string t0)]))) :: ("loop.example/g01061/impl.errNoMass", .iface "*errors.errorString" (.ptr (.agg [.lit (.string t1)]))) :: ("loop.example/g01061/impl.errTooHeavy", .iface "*errors.errorString" (.ptr (.agg [.lit (.string t2)]))) :: ("loop.example/g01061/impl.errTooFar", .iface "*errors.errorString" (.ptr (.agg [.lit (.string t3)]))) :: r) W) (h1 : t0 ≠ t1) (h2 : t0 ≠ t2) (h3 : t1 ≠ t2) (h4 : t3 ≠ t0) (h5 : t3 ≠ t1) (h6 : t3 ≠ t2) : ∃ p m k x, BowErrX W 3 p m k x := by
  obtain ⟨p, m, s0, s1⟩ := sen_pair h g_errNoPart gt_errNoPart g_errNoMass gt_errNoMass
  obtain ⟨k, x, s2, s3⟩ := sen_pair h.tail.tail g_errTooHeavy gt_errTooHeavy g_errTooFar gt_errTooFar
  exact ⟨p, m, k, x, ⟨⟨s0.1, s1.1, s2.1⟩, s0.ne s1 h1, s0.ne s2 h2, s1.ne s2 h3⟩, s3.1, s3.ne s0 h4, s3.ne s1 h5, s3.ne s2 h6⟩
theorem bowErrL {W : World} {r : List (String × DataW Unit)} {t0 t1 t2 t3 : List UInt8}
    (h : laidMet Tryd.prog (("loop.example/g01061/impl.errNoPart", .iface "*errors.errorString" (.ptr (.agg [.lit (.string t0)]))) :: ("loop.example/g01061/impl.errLastPart", .iface "*errors.errorString" (.ptr (.agg [.lit (.string t3)]))) :: ("loop.example/g01061/impl.errNoMass", .iface "*errors.errorString" (.ptr (.agg [.lit (.string t1)]))) :: ("loop.example/g01061/impl.errTooHeavy", .iface "*errors.errorString" (.ptr (.agg [.lit (.string t2)]))) :: r) W) (h1 : t0 ≠ t1) (h2 : t0 ≠ t2) (h3 : t1 ≠ t2) (h4 : t3 ≠ t0) (h5 : t3 ≠ t1) (h6 : t3 ≠ t2) : ∃ p m k x, BowErrX W 4 p m k x := by
  obtain ⟨p, x, s0, s3⟩ := sen_pair h g_errNoPart gt_errNoPart g_errLastPart gt_errLastPart
  obtain ⟨m, k, s1, s2⟩ := sen_pair h.tail.tail g_errNoMass gt_errNoMass g_errTooHeavy gt_errTooHeavy
  exact ⟨p, m, k, x, ⟨⟨s0.1, s1.1, s2.1⟩, s0.ne s1 h1, s0.ne s2 h2, s1.ne s2 h3⟩, s3.1, s3.ne s0 h4, s3.ne s1 h5, s3.ne s2 h6⟩
theorem codeOf_nil (w : World) : Calls Tryd.prog 28 #[.nilIface] w fun e w' => e = .returned (.int .i64 0) ∧ w' = w := by
  go_enter Tryd.func28, Tryd.ntmps28
  go_wp2
  go_ret
  exact ⟨rfl, rfl⟩
set_option maxHeartbeats 1600000 in
theorem codeOf_p (p m h : Addr) (w : World) (k : BowErr w p m h) : Calls Tryd.prog 28 #[.iface 99 (.pointer (some p))] w fun e w' => e = .returned (.int .i64 3) ∧ w' = w := by
  obtain ⟨⟨⟨p1, p2, p3, pc, pt, p4⟩, ⟨m1, m2, m3, mc, mt, m4⟩, ⟨h1, h2, h3, hc, ht, h4⟩⟩, npm, nph, nmh⟩ := k
  go_enter Tryd.func28, Tryd.ntmps28
  go_wp2_with (first
    | (go_at_call 41; (with_reducible refine (isSame_any p _).mono ?_); rintro e w' ⟨rfl, rfl⟩))
  go_ret
  exact ⟨rfl, rfl⟩
set_option maxHeartbeats 1600000 in
theorem codeOf_m (p m h : Addr) (w : World) (k : BowErr w p m h) : Calls Tryd.prog 28 #[.iface 99 (.pointer (some m))] w fun e w' => e = .returned (.int .i64 3) ∧ w' = w := by
  obtain ⟨⟨⟨p1, p2, p3, pc, pt, p4⟩, ⟨m1, m2, m3, mc, mt, m4⟩, ⟨h1, h2, h3, hc, ht, h4⟩⟩, npm, nph, nmh⟩ := k
  have o1 : Hid (∀ W, W = w → Calls Tryd.prog 41 #[.iface 99 (.pointer (some m)), .iface 99 (.pointer (some p))] W fun e w' => e = .returned (.bool false) ∧ w' = W) := Lib.hid (fun W hW => by subst hW; exact isOther_any m p mc pc mt pt W npm.symm m4 p4)
  go_enter Tryd.func28, Tryd.ntmps28
  go_wp2_with (first
    | (go_at_call 41; (with_reducible refine (o1.out _ rfl).mono ?_); rintro e w' ⟨rfl, rfl⟩)
    | (go_at_call 41; (with_reducible refine (isSame_any m _).mono ?_); rintro e w' ⟨rfl, rfl⟩))
  go_ret
  exact ⟨rfl, rfl⟩
set_option maxHeartbeats 1600000 in
theorem codeOf_h (p m h : Addr) (w : World) (k : BowErr w p m h) : Calls Tryd.prog 28 #[.iface 99 (.pointer (some h))] w fun e w' => e = .returned (.int .i64 5) ∧ w' = w := by
  obtain ⟨⟨⟨p1, p2, p3, pc, pt, p4⟩, ⟨m1, m2, m3, mc, mt, m4⟩, ⟨h1, h2, h3, hc, ht, h4⟩⟩, npm, nph, nmh⟩ := k
  have o1 : Hid (∀ W, W = w → Calls Tryd.prog 41 #[.iface 99 (.pointer (some h)), .iface 99 (.pointer (some p))] W fun e w' => e = .returned (.bool false) ∧ w' = W) := Lib.hid (fun W hW => by subst hW; exact isOther_any h p hc pc ht pt W nph.symm h4 p4)
  have o2 : Hid (∀ W, W = w → Calls Tryd.prog 41 #[.iface 99 (.pointer (some h)), .iface 99 (.pointer (some m))] W fun e w' => e = .returned (.bool false) ∧ w' = W) := Lib.hid (fun W hW => by subst hW; exact isOther_any h m hc mc ht mt W nmh.symm h4 m4)
  go_enter Tryd.func28, Tryd.ntmps28
  go_wp2_with (first
    | (go_at_call 41; (with_reducible refine (o1.out _ rfl).mono ?_); rintro e w' ⟨rfl, rfl⟩)
    | (go_at_call 41; (with_reducible refine (o2.out _ rfl).mono ?_); rintro e w' ⟨rfl, rfl⟩)
    | (go_at_call 41; (with_reducible refine (isSame_any h _).mono ?_); rintro e w' ⟨rfl, rfl⟩))
  go_ret
  exact ⟨rfl, rfl⟩
set_option maxHeartbeats 1600000 in
theorem codeOf_x (p m h : Addr) (w : World) (g : Nat) (x : Addr) (kx : BowErrX w g p m h x) : Calls Tryd.prog 28 #[.iface 99 (.pointer (some x))] w fun e w' => e = .returned (.int .i64 6) ∧ w' = w := by
  obtain ⟨k, ⟨x1, x2, x3, xc, xt, x4⟩, nxp, nxm, nxh⟩ := kx
  obtain ⟨⟨⟨p1, p2, p3, pc, pt, p4⟩, ⟨m1, m2, m3, mc, mt, m4⟩, ⟨h1, h2, h3, hc, ht, h4⟩⟩, npm, nph, nmh⟩ := k
  have o1 : Hid (∀ W, W = w → Calls Tryd.prog 41 #[.iface 99 (.pointer (some x)), .iface 99 (.pointer (some p))] W fun e w' => e = .returned (.bool false) ∧ w' = W) := Lib.hid (fun W hW => by subst hW; exact isOther_any x p xc pc xt pt W nxp x4 p4)
  have o2 : Hid (∀ W, W = w → Calls Tryd.prog 41 #[.iface 99 (.pointer (some x)), .iface 99 (.pointer (some m))] W fun e w' => e = .returned (.bool false) ∧ w' = W) := Lib.hid (fun W hW => by subst hW; exact isOther_any x m xc mc xt mt W nxm x4 m4)
  have o3 : Hid (∀ W, W = w → Calls Tryd.prog 41 #[.iface 99 (.pointer (some x)), .iface 99 (.pointer (some h))] W fun e w' => e = .returned (.bool false) ∧ w' = W) := Lib.hid (fun W hW => by subst hW; exact isOther_any x h xc hc xt ht W nxh x4 h4)
  go_enter Tryd.func28, Tryd.ntmps28
  go_wp2_with (first
    | (go_at_call 41; (with_reducible refine (o1.out _ rfl).mono ?_); rintro e w' ⟨rfl, rfl⟩)
    | (go_at_call 41; (with_reducible refine (o2.out _ rfl).mono ?_); rintro e w' ⟨rfl, rfl⟩)
    | (go_at_call 41; (with_reducible refine (o3.out _ rfl).mono ?_); rintro e w' ⟨rfl, rfl⟩))
  go_ret
  exact ⟨rfl, rfl⟩
end Go.Proofs.YtmhiekfnkbldeaaDoor
