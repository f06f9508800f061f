/- Layer 21: the document's own Scale, told plainly; what LifePlays calls. -/
import Derived.Test.YtfnadebkobfemaaLifRg
import Derived.Test.YtfnadebkobfemaaEngV
namespace Go.Proofs.Ytfnadebkobfemaa.Lif
open Go.Eng Go.RowKit
set_option linter.unusedVariables false
set_option linter.unusedSimpArgs false
def okQ (m : Int) (x : Nat × List R4) : Prop := x.1 = x.2.length ∧ x.2.length ≤ 10000 ∧ 0 ≤ m ∧ m ≤ 1000000000 ∧ gs x.2 ∧ ∃ b, LInv x.2 m b
theorem LInv.mono {l : List R4} {m m' b : Int} (h : LInv l m b) (hm : m ≤ m') : LInv l m' b := ⟨h.srt, fun p hp => ⟨(h.rng p hp).1, by have := (h.rng p hp).2; omega⟩, h.bz, h.sm, h.ot⟩
theorem sr_run {m want now : Int} {n : Nat} {l : List R4} (h : okQ m (n, l)) (ho : outS want now = false) : (srE [.ptr 0 0, iv want, iv now] (hR m n l)).eval = some (iv 0, hS 2000 (scaleM m l want) (scaleL m l want now).length (scaleL m l want now)) := by
  obtain ⟨h1, h2, h3, h4, h5, b, h6⟩ := h
  simp only at h1 h2 h5 h6
  obtain ⟨w1, w2, w3, w4⟩ := outS_no ho
  have h0 : okQa ⟨want, now, l, m⟩ ⟨m, n, l⟩ := ⟨w2, h3, h4, h2, h1, 0, by show l = l ++ newP now 0 m; simp [newP], by show m = m + ((0 : Nat) : Int); omega, by show ((0 : Nat) : Int) ≤ max (want - cnt l) 0; omega⟩
  obtain ⟨k1, k2⟩ := endC stepQa h0
  have k2' : ¬ (cnt (eQa m want now n l).l : Int) < want := of_decide_eq_false k2
  have hL : (eQa m want now n l).l.length ≤ 20000 := qa_len k1
  obtain ⟨_, _, _, _, a5, j, a6, a7, a8⟩ := k1
  have a5' : (eQa m want now n l).n = (eQa m want now n l).l.length := a5
  have a6' : (eQa m want now n l).l = l ++ newP now j m := a6
  have a7' : (eQa m want now n l).m = m + j := a7
  have a8' : (j : Int) ≤ max (want - cnt l) 0 := a8
  have hcl : cnt (eQa m want now n l).l = cnt l + j := by rw [a6', cnt_app, cnt_new]
  have hj : j = (want - cnt l).toNat := by omega
  have v1 : LInv (eQa m want now n l).l (eQa m want now n l).m b := by rw [a6', a7']; exact h6.new h3 w3 w4 j
  have v2 : gs (eQa m want now n l).l := by rw [a6']; exact h5.new now j m
  have h0b : okQb (pQb m want now n l) ⟨(eQa m want now n l).n, (eQa m want now n l).l⟩ := ⟨w1, w3, w4, a5', by show (eQa m want now n l).l.length ≤ 100000; omega, v2, ⟨b, v1⟩, 0, rfl, rfl, by show ((0 : Nat) : Int) ≤ max ((cnt (eQa m want now n l).l : Int) - want) 0; omega⟩
  obtain ⟨b1, b2⟩ := endC stepQb h0b
  obtain ⟨_, _, _, b3, _, _, _, i, b4, b5, b6⟩ := b1
  refine (T.path_eval (waySr0 m want now n l) ⟨ho, invC_is h0, invC_is h0b, trivial⟩).trans ?_
  have b2' : ¬ want < (cnt (eQb m want now n l).l : Int) := of_decide_eq_false b2
  have b3' : (eQb m want now n l).n = (eQb m want now n l).l.length := b3
  have b4' : (eQb m want now n l).l = disN now i (eQa m want now n l).l := b4
  have b5' : cnt (eQb m want now n l).l = cnt (eQa m want now n l).l - i := b5
  have b6' : (i : Int) ≤ max ((cnt (eQa m want now n l).l : Int) - want) 0 := b6
  have hi : i = ((cnt l : Int) - want).toNat := by omega
  have el : (eQb m want now n l).l = scaleL m l want now := by rw [b4', a6', hi, hj]; rfl
  have em : (eQa m want now n l).m = scaleM m l want := by rw [a7', hj]; rfl
  rw [b3', el, em]
noncomputable def scR (args : List V) (h : Heap) : T (V × Heap) := match args with
  | [.ptr 0 0, .s (.int .i64 want), .s (.int .i64 now)] => opt (dR h) fun x => .ite none (invC okQ x.1 x.2) (.ite none (outS want now) (.ret (iv 1, hR x.1 x.2.1 x.2.2)) (.ret (iv 0, hS 2000 (scaleM x.1 x.2.2 want) (scaleL x.1 x.2.2 want now).length (scaleL x.1 x.2.2 want now)))) .fail
  | _ => .fail
theorem scR_ok : ObjOk Try.prog 33 scR := srE_ok.of_eval fun args h v hv => by
  unfold scR at hv
  split at hv
  · rename_i want now
    obtain ⟨⟨m, n, l⟩, hd, hv⟩ := opt_eval hv
    have := dR_ok hd
    subst this
    obtain ⟨hc, hv⟩ := ite_some hv
    have hc : okQ m (n, l) := invC_ok hc
    cases ho : outS want now
    · simp only [ho, T.eval, cond_false, Option.some.injEq] at hv
      subst hv
      exact sr_run hc ho
    · simp only [ho, T.eval, cond_true, Option.some.injEq] at hv
      subst hv
      exact T.path_eval (waySr1 m want now n l) ⟨ho, trivial⟩
  · cases hv
noncomputable def JP : Cfg := ⟨Try.prog, lookG [(32, .val yesD), (24, .obj newL), (25, .obj scaC), (27, .obj entC), (29, .obj leaC), (26, .obj ripL), (31, .obj allL), (40, .obj rdyL), (30, .obj cntL), (28, .obj craC),
  (33, .obj scR), (35, .obj enC), (36, .obj leC), (34, .obj rrC), (41, .obj rdC), (42, .obj rcC), (37, .obj crC), (38, .val podsC), (39, .val intsC)], [39], 0⟩
theorem JP_ok : JP.Ok := Cfg.ok ⟨told_ok, newL_ok, scaC_ok, entC_ok, leaC_ok, ripL_ok, allL_ok, rdyL_ok, cntL_ok, craC_ok, scR_ok, enC_ok, leC_ok, rrC_ok, rdC_ok, rcC_ok, crC_ok, podsC_ok, intsC_ok, trivial⟩ ⟨⟨by kernel_rfl, by kernel_rfl⟩, trivial⟩
end Go.Proofs.Ytfnadebkobfemaa.Lif
