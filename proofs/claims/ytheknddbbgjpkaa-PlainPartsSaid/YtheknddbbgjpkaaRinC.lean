/- Layer 5: the ring's Put. -/
import Derived.Test.YtheknddbbgjpkaaRinB
namespace Go.Proofs.Ytheknddbbgjpkaa.Rin
open Go.Eng Go.RowKit Mil
set_option linter.unusedVariables false
set_option linter.unusedSimpArgs false
noncomputable def R4 : Cfg := ⟨Try.prog, lookG [(90, .see madeS), (92, .see sizeS), (91, .obj reachS), (93, .obj bucketR0), (94, .obj joinR0)], [], 0⟩
theorem R4_ok : R4.Ok := Cfg.ok ⟨madeS_ok, sizeS_ok, reachS_ok, bucketR0_ok, joinR0_ok, trivial⟩ trivial
noncomputable def putR0 : Eng.Obj := execO R4 noLoops 44
theorem putR0_ok : ObjOk Try.prog 44 putR0 := execO_plain R4_ok mixed Try.func44 (by kernel_rfl) (by kernel_rfl)
noncomputable def putR1 : Eng.Obj := fun args h0 => (putR0 args h0).bind (settleO 1 h0)
theorem putR1_ok : ObjOk Try.prog 44 putR1 := putR0_ok.settle 1
def badA (t v : Int) : Bool := bif bif decide (t < 0) then true else decide (1099511627776 < t) then true else decide (v < 0)
def addR (x : RB) (v : Int) : RB := (Mil.cutV (x.1 + v), IntKind.wrap .i64 (x.2.1 + 1), bif (bif x.2.2 then true else false) then true else Mil.cutE (x.1 + v) == 2)
noncomputable def l1R (w g : Int) (n : Nat) (nw : Int) (ov : Bool) (l : List OB) (i : Int) : List OB := (rcA w g n nw ov l i).l
theorem wayPe (w g : Int) (n : Nat) (nw : Int) (ov : Bool) (l : List OB) (t v : Int) : T.path [false, true] (T.anon (putR1 [.ptr 0 0, iv t, iv v] (ringH w g n nw ov l))) = some ([(!decide (0 < (n : Int)), false), (badA t v, true)], (iv 1, ringH w g n nw ov l)) := by kernel_rfl
theorem wayPl (w g : Int) (n : Nat) (nw : Int) (ov : Bool) (l : List OB) (t v i : Int) (hi : IntKind.wrap .i64 (Int.tdiv t g) = i) : T.path [false, false, false, true, false] (T.anon (putR1 [.ptr 0 0, iv t, iv v] (ringH w g n nw ov l))) =
    some ([(!decide (0 < (n : Int)), false), (badA t v, false), (g == 0, false), (gdR n nw l i, true), (decide (IntKind.wrap .i64 (mxR nw i - n) < i), false)], (iv 0, [(0, ringB w g n (mxR nw i) ov), (1, bxB (l1R w g n nw ov l i) [] none)])) := by subst hi; kernel_rfl
theorem wayPb (w g : Int) (n : Nat) (nw : Int) (ov : Bool) (l : List OB) (t v i : Int) (hi : IntKind.wrap .i64 (Int.tdiv t g) = i) : T.path [false, false, false, true, true, false, true, true, true, true] (T.anon (putR1 [.ptr 0 0, iv t, iv v] (ringH w g n nw ov l))) =
    some ([(!decide (0 < (n : Int)), false), (badA t v, false), (g == 0, false), (gdR n nw l i, true), (decide (IntKind.wrap .i64 (mxR nw i - n) < i), true), ((n : Int) == 0, false), (bndR n (l1R w g n nw ov l i) i, true), (decide (plc n i < (l1R w g n nw ov l i).length), true), (isBox (ks := KB) (l1R w g n nw ov l i) (plc n i), true), (Sta.inR (boxAt KB (l1R w g n nw ov l i) (plc n i)).1 && Sta.inR v, true)],
      (iv 0, [(0, ringB w g n (mxR nw i) ov), (1, bxB ((l1R w g n nw ov l i).set (plc n i) (some (addR (boxAt KB (l1R w g n nw ov l i) (plc n i)) v))) [] none)])) := by subst hi; kernel_rfl
theorem wayPn (w g : Int) (n : Nat) (nw : Int) (ov : Bool) (l : List OB) (t v i : Int) (hi : IntKind.wrap .i64 (Int.tdiv t g) = i) : T.path [false, false, false, true, true, false, true, true, false, true, true, true] (T.anon (putR1 [.ptr 0 0, iv t, iv v] (ringH w g n nw ov l))) =
    some ([(!decide (0 < (n : Int)), false), (badA t v, false), (g == 0, false), (gdR n nw l i, true), (decide (IntKind.wrap .i64 (mxR nw i - n) < i), true), ((n : Int) == 0, false), (bndR n (l1R w g n nw ov l i) i, true), (decide (plc n i < (l1R w g n nw ov l i).length), true), (isBox (ks := KB) (l1R w g n nw ov l i) (plc n i), false), (bndR n (l1R w g n nw ov l i) i, true), (decide (plc n i < (l1R w g n nw ov l i).length), true), (Sta.inR 0 && Sta.inR v, true)],
      (iv 0, [(0, ringB w g n (mxR nw i) ov), (1, bxB ((l1R w g n nw ov l i).set (plc n i) (some (addR (0, 0, false) v))) [] none)])) := by subst hi; kernel_rfl
/-- the cells behind a value put -/
noncomputable def putL (w g : Int) (n : Nat) (nw : Int) (ov : Bool) (l : List OB) (i v : Int) : List OB :=
  bif decide (mxR nw i - n < i) then (l1R w g n nw ov l i).set (plc n i) (some (addR (boxAt KB (l1R w g n nw ov l i) (plc n i)) v)) else l1R w g n nw ov l i
noncomputable def gdP (w g : Int) (n : Nat) (nw : Int) (ov : Bool) (l : List OB) (t v : Int) : Bool := decide (1 ≤ g) && (gdR n nw l (Int.tdiv t g) && ((bif decide (mxR nw (Int.tdiv t g) - n < Int.tdiv t g) then Sta.inR (boxAt KB (l1R w g n nw ov l (Int.tdiv t g)) (plc n (Int.tdiv t g))).1 else true) && Sta.inR v))
noncomputable def putS : Eng.Obj
  | [.ptr 0 0, .s (.int .i64 t), .s (.int .i64 v)], [(0, .cells 138 [.s (.int .i64 w), .s (.int .i64 g), .sub 1 1 0 n, .s (.int .i64 nw), .s (.bool ov)]), (1, .bx 20 141 145 [.int .i64, .int .i64, .bool] l [] none)] =>
    .ite none (decide (0 < n)) (.ite none (badA t v) (.ret (iv 1, ringH w g n nw ov l)) (.ite none (gdP w g n nw ov l t v) (.ret (iv 0, [(0, ringB w g n (mxR nw (Int.tdiv t g)) ov), (1, bxB (putL w g n nw ov l (Int.tdiv t g) v) [] none)])) .fail)) .fail
  | _, _ => .fail
theorem badA_false {t v : Int} : badA t v = false ↔ 0 ≤ t ∧ t ≤ 1099511627776 ∧ 0 ≤ v := by
  unfold badA
  by_cases h1 : t < 0
  · rw [decide_eq_true h1]; simp; omega
  · by_cases h2 : 1099511627776 < t
    · rw [decide_eq_true h2]; simp; omega
    · rw [decide_eq_false h1, decide_eq_false h2]; simp; omega
theorem tdiv_bd {t g : Int} (ht : 0 ≤ t) (hg : 1 ≤ g) : 0 ≤ Int.tdiv t g ∧ Int.tdiv t g ≤ t := by
  rw [Int.tdiv_eq_ediv_of_nonneg ht]
  exact ⟨Int.ediv_nonneg ht (by omega), Int.ediv_le_self g ht⟩
theorem putS_ok : ObjOk Try.prog 44 putS := putR1_ok.of_eval fun args h r hv => by
  unfold putS at hv
  split at hv
  · rename_i t v w g n nw ov l
    obtain ⟨hn, hv⟩ := ite_some hv
    have hn' := of_decide_eq_true hn
    rw [← T.eval_anon (t := putR1 _ _)]
    have a0 : (!decide (0 < (n : Int))) = false := by rw [decide_eq_true (show 0 < (n : Int) by omega)]; rfl
    cases hb : badA t v with
    | true =>
      rw [T.eval, hb] at hv
      obtain rfl := Option.some.inj hv
      exact T.path_eval (wayPe w g n nw ov l t v) ⟨a0, hb, trivial⟩
    | false =>
      rw [T.eval, hb] at hv
      obtain ⟨t0, t1, v0⟩ := badA_false.1 hb
      obtain ⟨hc, hv⟩ := ite_some hv
      obtain rfl := Option.some.inj hv
      unfold gdP at hc
      simp only [Bool.and_eq_true, decide_eq_true_eq] at hc
      obtain ⟨g1, hgd, hr1, hr2⟩ := hc
      obtain ⟨n0, n1, w0, w1, i0, i1, hl⟩ := gdR_iff.1 hgd
      obtain ⟨q1, q2⟩ := tdiv_bd t0 g1
      have hi : IntKind.wrap .i64 (Int.tdiv t g) = Int.tdiv t g := wrap64_in (by omega) (by omega)
      generalize hti : Int.tdiv t g = i at *
      have hj : IntKind.wrap .i64 (Int.tdiv t g) = i := by rw [hti]; exact hi
      have hg0 : (g == 0) = false := by rw [beq_eq_false_iff_ne]; omega
      have hmx : IntKind.wrap .i64 (mxR nw i - n) = mxR nw i - n := by unfold mxR; split <;> exact wrap64_in (by omega) (by omega)
      have hl1 := (rc_ok (w := w) (g := g) (ov := ov) n0 n1 w0 w1 i0 i1 hl).2.1
      have hl1 : (l1R w g n nw ov l i).length = n := hl1
      obtain ⟨b1, b2⟩ := bndR_is (l := l1R w g n nw ov l i) n0 i0 hl1
      have n00 : ((n : Int) == 0) = false := by rw [beq_eq_false_iff_ne]; omega
      unfold putL
      cases hq : decide (mxR nw i - n < i) with
      | false => exact T.path_eval (wayPl w g n nw ov l t v i hj) ⟨a0, hb, hg0, hgd, by rw [hmx]; exact hq, trivial⟩
      | true =>
        rw [hq] at hr1
        have hr : (Sta.inR (boxAt KB (l1R w g n nw ov l i) (plc n i)).1 && Sta.inR v) = true := by rw [show Sta.inR (boxAt KB (l1R w g n nw ov l i) (plc n i)).1 = true from hr1, hr2]; rfl
        cases hx : isBox (ks := KB) (l1R w g n nw ov l i) (plc n i) with
        | true => exact T.path_eval (wayPb w g n nw ov l t v i hj) ⟨a0, hb, hg0, hgd, by rw [hmx]; exact hq, n00, b1, b2, hx, hr, trivial⟩
        | false =>
          have e : boxAt KB (l1R w g n nw ov l i) (plc n i) = ((0, 0, false) : RB) := by
            unfold boxAt
            rw [isBox_false (of_decide_eq_true b2) hx]; rfl
          rw [e]
          exact T.path_eval (wayPn w g n nw ov l t v i hj) ⟨a0, hb, hg0, hgd, by rw [hmx]; exact hq, n00, b1, b2, hx, b1, b2, by rw [hr2]; rfl, trivial⟩
  · cases hv
end Go.Proofs.Ytheknddbbgjpkaa.Rin
