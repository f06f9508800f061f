/- Layer 8: what a pod's breaker holds (all), the time that goes on (pass). -/
import Derived.Test.YtacdadifjgppbaaPodS
namespace Go.Proofs.Ytacdadifjgppbaa.Pod
open Go.Eng Go.RowKit Go.Flt Lod Brk
set_option linter.unusedVariables false
set_option linter.unusedSimpArgs false
def rnB (id m t l s : Int) : Blk := .cells 78 [iv id, .ptr 1 0, iv m, iv t, iv l, iv s]
def rnH (id m t l s L D : Int) (x y : Nat) : Heap := [(0, rnB id m t l s), (1, bkB L D x y)]
def cellsR {α : Type} (l : List V) (f : Int → Int → Int → Int → Int → T α) : T α :=
  match l with
  | [.s (.int .i64 id), .ptr 1 0, .s (.int .i64 m), .s (.int .i64 t), .s (.int .i64 l), .s (.int .i64 s)] => f id m t l s
  | _ => .fail
theorem cellsR_some {α : Type} {l : List V} {f : Int → Int → Int → Int → Int → T α} {r : α} (e : (cellsR l f).eval = some r) : ∃ id m t u s, l = [iv id, .ptr 1 0, iv m, iv t, iv u, iv s] ∧ (f id m t u s).eval = some r := by
  unfold cellsR at e
  split at e
  · exact ⟨_, _, _, _, _, rfl, e⟩
  · cases e
def heapR {α : Type} (h : Heap) (f : Int → Int → Int → Int → Int → Int → Int → Nat → Nat → T α) : T α :=
  match h with
  | [(0, .cells t r), (1, .cells t' l)] => if t = 78 then if t' = 76 then cellsR r fun id m t u s => cellsB l fun L D x y => f id m t u s L D x y else .fail else .fail
  | _ => .fail
theorem heapR_some {α : Type} {h : Heap} {f : Int → Int → Int → Int → Int → Int → Int → Nat → Nat → T α} {r : α} (e : (heapR h f).eval = some r) : ∃ id m t u s L D x y, h = rnH id m t u s L D x y ∧ (f id m t u s L D x y).eval = some r := by
  unfold heapR at e
  split at e
  · split at e
    · rename_i ht
      subst ht
      split at e
      · rename_i ht
        subst ht
        obtain ⟨id, m, t, u, s, rfl, e⟩ := cellsR_some e
        obtain ⟨L, D, x, y, rfl, e⟩ := cellsB_some e
        exact ⟨id, m, t, u, s, L, D, x, y, rfl, e⟩
      · cases e
    · cases e
  · cases e
/-- one argument behind the pod -/
def argR {α : Type} (args : List V) (f : Int → T α) : T α :=
  match args with
  | [.ptr 0 0, .s (.int .i64 n)] => f n
  | _ => .fail
theorem argR_some {α : Type} {args : List V} {f : Int → T α} {r : α} (e : (argR args f).eval = some r) : ∃ n, args = [.ptr 0 0, iv n] ∧ (f n).eval = some r := by
  unfold argR at e
  split at e
  · exact ⟨_, rfl, e⟩
  · cases e
def arg0 {α : Type} (args : List V) (f : T α) : T α :=
  match args with
  | [.ptr 0 0] => f
  | _ => .fail
theorem arg0_some {α : Type} {args : List V} {f : T α} {r : α} (e : (arg0 args f).eval = some r) : args = [.ptr 0 0] ∧ f.eval = some r := by
  unfold arg0 at e
  split at e
  · exact ⟨rfl, e⟩
  · cases e
def allS (args : List V) (h : Heap) : T V := arg0 args (heapR h fun id m t u s L D x y => .ite none (isW x && isW y) (.ret (iv (valW x + valW y))) .fail)
theorem isW_le {x : Nat} (h : isW x = true) : 0 ≤ valW x ∧ valW x ≤ 1099511627776 := by
  obtain ⟨n, hn, _, v⟩ := isW_some h
  omega
theorem allS_ok : SeeOk Try.prog 65 allS := allP_ok.see _ fun args h v hv hf => by
  obtain ⟨rfl, hv⟩ := arg0_some (show (arg0 args _).eval = some v from hv)
  obtain ⟨id, m, t, u, s, L, D, x, y, rfl, hv⟩ := heapR_some hv
  obtain ⟨hk, hv⟩ := guardO hv
  obtain rfl := Option.some.inj hv
  refine ⟨rfl, ?_⟩
  have e : T.anon (allP [.ptr 0 0] (rnH id m t u s L D x y)) = T.ite none (isW x) (T.ite none (isW y) (.ret (iv (IntKind.wrap .i64 (valW x + valW y)), rnH id m t u s L D x y)) .fail) .fail := by kernel_rfl
  rw [← T.eval_anon (t := allP _ _)]
  refine Eq.trans (congrArg T.eval e) ?_
  simp only [Bool.and_eq_true] at hk
  have h1 := isW_le hk.1
  have h2 := isW_le hk.2
  rw [wrap64_in (n := valW x + valW y) (by omega) (by omega)]
  exact tev_then hk.1 (tev_then hk.2 rfl)
noncomputable def D2 : Cfg := ⟨Try.prog, lookG [(65, .see allS)], [], 0⟩
theorem D2_ok : D2.Ok := Cfg.ok ⟨allS_ok, trivial⟩ trivial
noncomputable def passP : Eng.Obj := execO D2 noLoops 64
theorem passP_ok : ObjOk Try.prog 64 passP := execO_plain D2_ok mixed Try.func64 (by kernel_rfl) (by kernel_rfl)
end Go.Proofs.Ytacdadifjgppbaa.Pod
