/- Layer 5: the document's ring: contracts. -/
import Derived.Test.YtheknddbbgjpkaaRdC
namespace Go.Proofs.Ytheknddbbgjpkaa.Rin
open Go.Eng Go.RowKit Mil
set_option linter.unusedVariables false
set_option linter.unusedSimpArgs false
def keepD (w g : Int) (n : Nat) (nw : Int) (l : List TV) (x : TV) : List TV := List.filter (kpD w g nw) (List.take n l ++ [x])
def puN (k : Nat) (w g : Int) (nw : Int) (ov : Bool) (r : List TV) : Heap := [(0, dB w g (.sub k 2 0 r.length) nw ov), (k, .lst true 86 KR r)]
noncomputable def gdD (w g : Int) (n : Nat) (nw : Int) (l : List TV) (t v : Int) : Prop := OkD w g nw l ∧ n = l.length ∧ l.length < 100000 ∧ v ≤ 9223372036854775807
noncomputable def puS : Eng.Obj
  | [.ptr 0 0, .s (.int .i64 t), .s (.int .i64 v)], [(0, .cells 78 [.s (.int .i64 w), .s (.int .i64 g), .sub 1 2 0 n, .s (.int .i64 nw), .s (.bool ov)]), (1, .lst true 86 [.int .i64, .int .i64] l)] =>
    .ite none (badA t v) (.ret (iv 1, dH w g n nw ov l))
      (.ite none (pB (gdD w g n nw l t v)) (.ite none (decide ((nN w g : Nat) ≤ nw - Int.tdiv t g)) (.ret (iv 0, dH w g n nw ov l)) (.ret (iv 0, puN 250 w g (mxR nw (Int.tdiv t g)) ov (keepD w g n (mxR nw (Int.tdiv t g)) l (t, v))))) .fail)
  | _, _ => .fail
theorem wayDe (w g : Int) (n : Nat) (nw : Int) (ov : Bool) (l : List TV) (t v : Int) : T.path [true] (T.anon (puD1 [.ptr 0 0, iv t, iv v] (dH w g n nw ov l))) = some ([(badA t v, true)], (iv 1, dH w g n nw ov l)) := by kernel_rfl
theorem wayDl (w g : Int) (n : Nat) (nw : Int) (ov : Bool) (l : List TV) (t v i m : Int) (hi : IntKind.wrap .i64 (Int.tdiv t g) = i) : T.path [false, false, false, true] (T.anon (puD1 [.ptr 0 0, iv t, iv v] (dH w g n nw ov l))) =
    some ([(badA t v, false), (g == 0, false), (g == 0, false), (decide (nnI w g ≤ IntKind.wrap .i64 (nw - i)), true)], (iv 0, dH w g n nw ov l)) := by subst hi; kernel_rfl
theorem wayDn (w g : Int) (n : Nat) (nw : Int) (ov : Bool) (l : List TV) (t v i m : Int) (hi : IntKind.wrap .i64 (Int.tdiv t g) = i) (hm : (if i > nw then i else nw) = m) : T.path [false, false, false, false, false, true, true] (T.anon (puD1 [.ptr 0 0, iv t, iv v] (dH w g n nw ov l))) =
    some ([(badA t v, false), (g == 0, false), (g == 0, false), (decide (nnI w g ≤ IntKind.wrap .i64 (nw - i)), false), (g == 0, false), (apC n l (t, v), true), (pB (OkD w g m (List.take n l ++ [(t, v)]) ∧ n + [(t, v)].length = (List.take n l ++ [(t, v)]).length), true)],
      (iv 0, puN 250 w g m ov (keepD w g n m l (t, v)))) := by subst hi; subst hm; kernel_rfl
theorem okD_app {w g : Int} {n : Nat} {nw : Int} {l : List TV} {t v : Int} (d : OkD w g nw l) (hn : n = l.length) (hl : l.length < 100000) (t0 : 0 ≤ t) (t1 : t ≤ 1099511627776) (v0 : 0 ≤ v) (v1 : v ≤ 9223372036854775807) :
    OkD w g (mxR nw (Int.tdiv t g)) (List.take n l ++ [(t, v)]) ∧ n + [(t, v)].length = (List.take n l ++ [(t, v)]).length := by
  obtain ⟨q1, q2⟩ := tdiv_bd t0 d.g1
  have n0 := d.n0
  have n1 := d.n1
  rw [hn, List.take_length]
  refine ⟨⟨d.g1, d.g2, d.w1, by unfold mxR; split <;> omega, by unfold mxR; split <;> omega, by rw [List.length_append]; show l.length + 1 ≤ _; omega, ?_⟩, by rw [List.length_append]⟩
  intro x hx
  rcases List.mem_append.1 hx with hx | hx
  · exact d.el x hx
  · rw [List.mem_singleton] at hx; rw [hx]; exact ⟨t0, t1, v0, v1⟩
theorem puS_ok : ObjOk Try.prog 48 puS := puD1_ok.of_eval fun args h r hv => by
  unfold puS at hv
  split at hv
  · rename_i t v w g n nw ov l
    rw [← T.eval_anon (t := puD1 _ _)]
    cases hb : badA t v with
    | true =>
      rw [T.eval, hb] at hv
      obtain rfl := Option.some.inj hv
      exact T.path_eval (wayDe w g n nw ov l t v) ⟨hb, trivial⟩
    | false =>
      rw [T.eval, hb] at hv
      obtain ⟨t0, t1, v0⟩ := badA_false.1 hb
      obtain ⟨hc, hv⟩ := ite_some hv
      obtain ⟨d, hn, hl, v1⟩ := pB_ok hc
      obtain ⟨q1, q2⟩ := tdiv_bd t0 d.g1
      have hi : IntKind.wrap .i64 (Int.tdiv t g) = Int.tdiv t g := wrap64_in (by omega) (by omega)
      have g0 : (g == 0) = false := by rw [beq_eq_false_iff_ne]; have := d.g1; omega
      have n0 := d.n0
      have n1 := d.n1
      have hw : IntKind.wrap .i64 (nw - Int.tdiv t g) = nw - Int.tdiv t g := wrap64_in (by omega) (by omega)
      have hN := nnI_is d.g1 d.g2 d.w1
      cases hq : decide ((nN w g : Nat) ≤ nw - Int.tdiv t g) with
      | true =>
        rw [T.eval, hq] at hv
        obtain rfl := Option.some.inj hv
        exact T.path_eval (wayDl w g n nw ov l t v _ 0 hi) ⟨hb, g0, g0, by rw [hw, hN]; exact hq, trivial⟩
      | false =>
        rw [T.eval, hq] at hv
        obtain rfl := Option.some.inj hv
        have hm : (if Int.tdiv t g > nw then Int.tdiv t g else nw) = mxR nw (Int.tdiv t g) := rfl
        obtain ⟨z1, z2⟩ := okD_app d hn hl t0 t1 v0 v1
        exact T.path_eval (wayDn w g n nw ov l t v _ _ hi hm) ⟨hb, g0, g0, by rw [hw, hN]; exact hq, g0, apC_is _ hn (by omega), pB_is ⟨z1, z2⟩, trivial⟩
  · cases hv
noncomputable def meS : Eng.Obj
  | [.ptr 0 0, .s (.int .i64 t)], [(0, .cells 78 [.s (.int .i64 w), .s (.int .i64 g), .sub 1 2 0 n, .s (.int .i64 nw), .s (.bool ov)]), (1, .lst true 86 [.int .i64, .int .i64] l)] =>
    .ite none (pB (OkD w g nw l ∧ n = l.length ∧ t ≤ 9223372036854775807)) (.ret (iv (mnV (Mil.cutV (sv (wD w g t l))) ((wD w g t l).length : Int)), dH w g n nw (ov || decide (tpI < sv (wD w g t l))) l)) .fail
  | _, _ => .fail
theorem wayM0 (w g : Int) (n : Nat) (nw : Int) (ov : Bool) (l : List TV) (t : Int) : T.path [true, true] (T.anon (meD0 [.ptr 0 0, iv t] (dH w g n nw ov l))) =
    some ([(pB (OkD w g nw l ∧ n = l.length ∧ t ≤ 9223372036854775807), true), (((wD w g t l).length : Int) == 0, true)], (iv 0, dH w g n nw (ov || decide (tpI < sv (wD w g t l))) l)) := by kernel_rfl
theorem wayM1 (w g : Int) (n : Nat) (nw : Int) (ov : Bool) (l : List TV) (t : Int) : T.path [true, false, false] (T.anon (meD0 [.ptr 0 0, iv t] (dH w g n nw ov l))) =
    some ([(pB (OkD w g nw l ∧ n = l.length ∧ t ≤ 9223372036854775807), true), (((wD w g t l).length : Int) == 0, false), (((wD w g t l).length : Int) == 0, false)], (iv (IntKind.wrap .i64 (Int.tdiv (Mil.cutV (sv (wD w g t l))) ((wD w g t l).length : Int))), dH w g n nw (ov || decide (tpI < sv (wD w g t l))) l)) := by kernel_rfl
theorem meS_ok : ObjOk Try.prog 51 meS := meD0_ok.of_eval fun args h r hv => by
  unfold meS at hv
  split at hv
  · rename_i t w g n nw ov l
    obtain ⟨hc, hv⟩ := ite_some hv
    obtain rfl := Option.some.inj hv
    rw [← T.eval_anon (t := meD0 _ _)]
    unfold mnV
    cases hz : ((wD w g t l).length : Int) == 0 with
    | true => exact T.path_eval (wayM0 w g n nw ov l t) ⟨hc, hz, trivial⟩
    | false => exact T.path_eval (wayM1 w g n nw ov l t) ⟨hc, hz, hz, trivial⟩
  · cases hv
noncomputable def reS : Eng.Obj
  | [.ptr 0 0, .s (.int .i64 x)], [(0, .cells 78 [.s (.int .i64 w), .s (.int .i64 g), .sub 1 2 0 n, .s (.int .i64 nw), .s (.bool ov)]), (1, .lst true 86 [.int .i64, .int .i64] l)] =>
    .ite none (badX x g) (.ret (iv 1, dH w g n nw ov l)) (.ite none (pB (OkD x g nw l ∧ n = l.length)) (.ret (iv 0, puN 34 x g nw ov (l.filter (kpD x g nw)))) .fail)
  | _, _ => .fail
theorem wayX0 (w g : Int) (n : Nat) (nw : Int) (ov : Bool) (l : List TV) (x : Int) : T.path [true] (T.anon (reD1 [.ptr 0 0, iv x] (dH w g n nw ov l))) = some ([(badX x g, true)], (iv 1, dH w g n nw ov l)) := by kernel_rfl
theorem wayX1 (w g : Int) (n : Nat) (nw : Int) (ov : Bool) (l : List TV) (x : Int) : T.path [false, true] (T.anon (reD1 [.ptr 0 0, iv x] (dH w g n nw ov l))) = some ([(badX x g, false), (pB (OkD x g nw l ∧ n = l.length), true)], (iv 0, puN 34 x g nw ov (l.filter (kpD x g nw)))) := by kernel_rfl
theorem reS_ok : ObjOk Try.prog 53 reS := reD1_ok.of_eval fun args h r hv => by
  unfold reS at hv
  split at hv
  · rename_i x w g n nw ov l
    rw [← T.eval_anon (t := reD1 _ _)]
    cases hb : badX x g with
    | true =>
      rw [T.eval, hb] at hv
      obtain rfl := Option.some.inj hv
      exact T.path_eval (wayX0 w g n nw ov l x) ⟨hb, trivial⟩
    | false =>
      rw [T.eval, hb] at hv
      obtain ⟨hc, hv⟩ := ite_some hv
      obtain rfl := Option.some.inj hv
      exact T.path_eval (wayX1 w g n nw ov l x) ⟨hb, hc, trivial⟩
  · cases hv
def newDS : Eng.Obj
  | [.s (.int .i64 w), .s (.int .i64 g)], [] => .ite none (badN w g) (.ret (.nilPtr, [])) (.ret (.ptr 56 0, [(56, dB w g (.sub 57 2 0 0) (-1) false), (57, .lst true 86 KR [])]))
  | _, _ => .fail
theorem wayW0 (w g : Int) : T.path [true] (T.anon (newD1 [iv w, iv g] [])) = some ([(badN w g, true)], (.nilPtr, [])) := by kernel_rfl
theorem wayW1 (w g : Int) : T.path [false] (T.anon (newD1 [iv w, iv g] [])) = some ([(badN w g, false)], (.ptr 56 0, [(56, dB w g (.sub 57 2 0 0) (-1) false), (57, .lst true 86 KR [])])) := by kernel_rfl
theorem newDS_ok : ObjOk Try.prog 47 newDS := newD1_ok.of_eval fun args h r hv => by
  unfold newDS at hv
  split at hv
  · rename_i w g
    rw [← T.eval_anon (t := newD1 _ _)]
    cases hb : badN w g with
    | true =>
      rw [T.eval, hb] at hv
      obtain rfl := Option.some.inj hv
      exact T.path_eval (wayW0 w g) ⟨hb, trivial⟩
    | false =>
      rw [T.eval, hb] at hv
      obtain rfl := Option.some.inj hv
      exact T.path_eval (wayW1 w g) ⟨hb, trivial⟩
  · cases hv
noncomputable def RQ : Cfg := ⟨Try.prog, lookG [(43, .obj newS), (44, .obj putS), (45, .obj sumS), (50, .obj meanS), (54, .obj siS), (52, .obj resS), (56, .see ovS), (46, .val yesR),
  (47, .obj newDS), (48, .obj puS), (49, .obj suS), (51, .obj meS), (53, .obj reS), (55, .see nS)], EB, 0⟩
theorem RQ_ok : RQ.Ok := Cfg.ok ⟨newS_ok, putS_ok, sumS_ok, meanS_ok, siS_ok, resS_ok, ovS_ok, told_ok, newDS_ok, puS_ok, suS_ok, meS_ok, reS_ok, nS_ok, trivial⟩ EB_ok
end Go.Proofs.Ytheknddbbgjpkaa.Rin
