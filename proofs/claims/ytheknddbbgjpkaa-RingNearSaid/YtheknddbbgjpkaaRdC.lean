/- Layer 5: the document's ring: contracts of forget and Sum. -/
import Derived.Test.YtheknddbbgjpkaaRdB
namespace Go.Proofs.Ytheknddbbgjpkaa.Rin
open Go.Eng Go.RowKit Mil
set_option linter.unusedVariables false
set_option linter.unusedSimpArgs false
def dK (w g : Int) (nw : Int) (ov : Bool) (k : Nat) (l : List TV) : Heap := [(0, dB w g (.sub k 2 0 l.length) nw ov), (k, .lst true 86 KR l)]
theorem fin_take {l : List TV} {n : Nat} (h : n = l.length) (f : TV → Bool) : (l.take ((n : Int).toNat)).filter f = l.filter f := by
  rw [Int.toNat_natCast, h, List.take_length]
/-- what the document's ring sums at t -/
def wD (w g t : Int) (l : List TV) : List TV := l.filter (inD w g t)
theorem wD_neg {w g t : Int} {l : List TV} (h : ¬ 0 ≤ t) : wD w g t l = [] := by
  unfold wD
  rw [List.filter_eq_nil_iff]
  intro x _ hx
  unfold inD at hx
  rw [decide_eq_false h] at hx; cases hx
noncomputable def foS : Eng.Obj
  | [.ptr 0 0], [(0, .cells 78 [.s (.int .i64 w), .s (.int .i64 g), .sub 1 2 0 n, .s (.int .i64 nw), .s (.bool ov)]), (1, .lst true 86 [.int .i64, .int .i64] l)] =>
    .ite none (pB (OkD w g nw l ∧ n = l.length)) (.ret (.tup [], dK w g nw ov 1000 (l.filter (kpD w g nw)))) .fail
  | _, _ => .fail
theorem wayFS (w g : Int) (n : Nat) (nw : Int) (ov : Bool) (l : List TV) : T.path [true] (T.anon (foD1 [.ptr 0 0] (dH w g n nw ov l))) = some ([(invC okFo ⟨w, g, n, nw, ov, l⟩ ⟨0, [], 0⟩, true)], (.tup [], [(0, dB w g (.sub 1000 2 0 (endW (nxtC okFo goFo rdFo FFo muFo ⟨w, g, n, nw, ov, l⟩) ⟨0, [], 0⟩).m) nw ov), (1000, .lst true 86 KR (endW (nxtC okFo goFo rdFo FFo muFo ⟨w, g, n, nw, ov, l⟩) ⟨0, [], 0⟩).k)])) := by kernel_rfl
theorem foS_ok : ObjOk Try.prog 96 foS := foD1_ok.of_eval fun args h r hv => by
  unfold foS at hv
  split at hv
  · rename_i w g n nw ov l
    obtain ⟨hc, hv⟩ := ite_some hv
    obtain rfl := Option.some.inj hv
    obtain ⟨d, hn⟩ := pB_ok hc
    rw [← T.eval_anon (t := foD1 _ _)]
    have h0 : okFo ⟨w, g, n, nw, ov, l⟩ ⟨0, [], 0⟩ := ⟨d, hn, Int.le_refl _, by show (0 : Int) ≤ n; omega, rfl, rfl⟩
    obtain ⟨k1, k2⟩ := endC stepFo h0
    refine (T.path_eval (wayFS w g n nw ov l) ⟨invC_is h0, trivial⟩).trans ?_
    have hj : (endW (nxtC okFo goFo rdFo FFo muFo ⟨w, g, n, nw, ov, l⟩) ⟨0, [], 0⟩).j = n := by
      have q1 : (endW (nxtC okFo goFo rdFo FFo muFo ⟨w, g, n, nw, ov, l⟩) ⟨0, [], 0⟩).j ≤ (n : Int) := k1.j1
      have q2 : ¬ (endW (nxtC okFo goFo rdFo FFo muFo ⟨w, g, n, nw, ov, l⟩) ⟨0, [], 0⟩).j < (n : Int) := of_decide_eq_false k2
      omega
    have e2 : (endW (nxtC okFo goFo rdFo FFo muFo ⟨w, g, n, nw, ov, l⟩) ⟨0, [], 0⟩).k = (List.take (endW (nxtC okFo goFo rdFo FFo muFo ⟨w, g, n, nw, ov, l⟩) ⟨0, [], 0⟩).j.toNat (l : List TV)).filter (kpD w g nw) := k1.k
    have hk : (endW (nxtC okFo goFo rdFo FFo muFo ⟨w, g, n, nw, ov, l⟩) ⟨0, [], 0⟩).k = List.filter (kpD w g nw) (l : List TV) := by
      rw [e2, hj]; exact fin_take hn _
    rw [k1.m, hk]; rfl
  · cases hv
noncomputable def suS : Eng.Obj
  | [.ptr 0 0, .s (.int .i64 t)], [(0, .cells 78 [.s (.int .i64 w), .s (.int .i64 g), .sub 1 2 0 n, .s (.int .i64 nw), .s (.bool ov)]), (1, .lst true 86 [.int .i64, .int .i64] l)] =>
    .ite none (pB (OkD w g nw l ∧ n = l.length ∧ t ≤ 9223372036854775807)) (.ret (.tup [iv (Mil.cutV (sv (wD w g t l))), iv ((wD w g t l).length : Int)], dH w g n nw (ov || decide (tpI < sv (wD w g t l))) l)) .fail
  | _, _ => .fail
theorem waySU (w g : Int) (n : Nat) (nw : Int) (ov : Bool) (l : List TV) (t : Int) : T.path [true] (T.anon (suD0 [.ptr 0 0, iv t] (dH w g n nw ov l))) = some ([(invC okDs ⟨w, g, n, nw, l, t, ov⟩ ⟨ov, 0, 0, 0⟩, true)],
   (.tup [iv (endW (nxtC okDs goDs rdDs FDs muDs ⟨w, g, n, nw, l, t, ov⟩) ⟨ov, 0, 0, 0⟩).s, iv (endW (nxtC okDs goDs rdDs FDs muDs ⟨w, g, n, nw, l, t, ov⟩) ⟨ov, 0, 0, 0⟩).c], dH w g n nw (endW (nxtC okDs goDs rdDs FDs muDs ⟨w, g, n, nw, l, t, ov⟩) ⟨ov, 0, 0, 0⟩).ov l)) := by kernel_rfl
theorem suS_ok : ObjOk Try.prog 49 suS := suD0_ok.of_eval fun args h r hv => by
  unfold suS at hv
  split at hv
  · rename_i t w g n nw ov l
    obtain ⟨hc, hv⟩ := ite_some hv
    obtain rfl := Option.some.inj hv
    obtain ⟨d, hn, t1⟩ := pB_ok hc
    rw [← T.eval_anon (t := suD0 _ _)]
    have h0 : okDs ⟨w, g, n, nw, l, t, ov⟩ ⟨ov, 0, 0, 0⟩ := ⟨d, t1, hn, Int.le_refl _, by show (0 : Int) ≤ n; omega, rfl, rfl, by show ov = (ov || decide (tpI < 0)); rw [show decide (tpI < 0) = false from rfl, Bool.or_false], fun _ => rfl⟩
    obtain ⟨k1, k2⟩ := endC stepDs h0
    refine (T.path_eval (waySU w g n nw ov l t) ⟨invC_is h0, trivial⟩).trans ?_
    generalize endW (nxtC okDs goDs rdDs FDs muDs ⟨w, g, n, nw, l, t, ov⟩) ⟨ov, 0, 0, 0⟩ = e at *
    have hF : (l.take e.j.toNat).filter (inD w g t) = wD w g t l := by
      by_cases ht : 0 ≤ t
      · have q1 : e.j ≤ (n : Int) := k1.j1
        have q2 : ¬ e.j < (n : Int) := by
          have : (bif decide (e.j < (n : Int)) then decide (0 ≤ t) else false) = false := k2
          rw [decide_eq_true ht] at this
          intro h
          rw [decide_eq_true h] at this; cases this
        have hj : e.j = (n : Int) := by omega
        rw [hj]; exact fin_take hn _
      · have e0 : e.j = 0 := k1.tn (by show t < 0; omega)
        rw [e0]; exact (wD_neg ht).symm
    have s1 : e.s = Mil.cutV (sv ((l.take e.j.toNat).filter (inD w g t))) := k1.s
    have s2 : e.c = (((l.take e.j.toNat).filter (inD w g t)).length : Int) := k1.c
    have s3 : e.ov = (ov || decide (tpI < sv ((l.take e.j.toNat).filter (inD w g t)))) := k1.ov
    rw [s1, s2, s3, hF]
  · cases hv
noncomputable def D3 : Cfg := ⟨Try.prog, lookG [(55, .see nS), (95, .see bkS), (96, .obj foS), (49, .obj suS)], [], 0⟩
theorem D3_ok : D3.Ok := Cfg.ok ⟨nS_ok, bkS_ok, foS_ok, suS_ok, trivial⟩ trivial
noncomputable def puD0 : Eng.Obj := execO D3 noLoops 48
theorem puD0_ok : ObjOk Try.prog 48 puD0 := execO_plain D3_ok mixed Try.func48 (by kernel_rfl) (by kernel_rfl)
noncomputable def puD1 : Eng.Obj := fun args h0 => (puD0 args h0).bind (tidyO 1 h0)
theorem puD1_ok : ObjOk Try.prog 48 puD1 := puD0_ok.tidy 1
noncomputable def meD0 : Eng.Obj := execO D3 noLoops 51
theorem meD0_ok : ObjOk Try.prog 51 meD0 := execO_plain D3_ok mixed Try.func51 (by kernel_rfl) (by kernel_rfl)
noncomputable def reD0 : Eng.Obj := execO D3 noLoops 53
theorem reD0_ok : ObjOk Try.prog 53 reD0 := execO_plain D3_ok mixed Try.func53 (by kernel_rfl) (by kernel_rfl)
noncomputable def reD1 : Eng.Obj := fun args h0 => (reD0 args h0).bind (tidyO 1 h0)
theorem reD1_ok : ObjOk Try.prog 53 reD1 := reD0_ok.tidy 1
noncomputable def newD1 : Eng.Obj := fun args h0 => (((newD0 args h0).bind fun r => .ret (nrmV r.1, nrmH r.2))).bind (adoptH 56 2 86 KR h0)
theorem newD1_ok : ObjOk Try.prog 47 newD1 := newD0_ok.norm.adopt 56 2 86 KR
end Go.Proofs.Ytheknddbbgjpkaa.Rin
