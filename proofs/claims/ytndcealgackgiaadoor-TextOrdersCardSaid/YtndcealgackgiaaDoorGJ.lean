import Derived.Laws.Strings
import Derived.Test.YtndcealgackgiaaDoorRows
import Derived.Test.YtndcealgackgiaaDoorGE
/- Contracts of package conf, out of the machine. -/
namespace Go.Proofs.YtndcealgackgiaaDoor.Mil
open Go.Eng Go.RowKit
theorem mixed : Tryd.prog.follows .mixedOrders = true := Checked.mixed Tryd.checked
def intV (a : Int) : V := .s (.int .i64 a)
end Go.Proofs.YtndcealgackgiaaDoor.Mil
namespace Go.Proofs.YtndcealgackgiaaDoor.Conf
open Go.Eng Go.RowKit Mil
set_option linter.unusedVariables false
set_option linter.unusedSimpArgs false

def confV (c : Cf) : V := .agg [intV c.target, intV c.util, intV c.stable, intV c.panic, intV c.grain, intV c.threshold, intV c.up, intV c.down, intV c.min, intV c.max, intV c.initial, intV c.grace, intV c.delay, intV c.burst, intV c.limit, intV c.queue, intV c.timeout, intV c.ready, intV c.subset, intV c.sample]
/-- settings, if it is some -/
def asConf {α : Type} (v : V) (k : Cf → T α) : T α :=
  match v with
  | .agg [.s (.int .i64 a0), .s (.int .i64 a1), .s (.int .i64 a2), .s (.int .i64 a3), .s (.int .i64 a4), .s (.int .i64 a5), .s (.int .i64 a6), .s (.int .i64 a7), .s (.int .i64 a8), .s (.int .i64 a9), .s (.int .i64 a10), .s (.int .i64 a11), .s (.int .i64 a12), .s (.int .i64 a13), .s (.int .i64 a14), .s (.int .i64 a15), .s (.int .i64 a16), .s (.int .i64 a17), .s (.int .i64 a18), .s (.int .i64 a19)] => k ⟨a0, a1, a2, a3, a4, a5, a6, a7, a8, a9, a10, a11, a12, a13, a14, a15, a16, a17, a18, a19⟩
  | _ => .fail
theorem asConf_conf {α : Type} (c : Cf) (k : Cf → T α) : asConf (confV c) k = k c := rfl
theorem asConf_some {α : Type} {v : V} {k : Cf → T α} {r : α} (h : (asConf v k).eval = some r) : ∃ c, v = confV c ∧ (k c).eval = some r := by
  unfold asConf at h
  split at h
  · exact ⟨_, rfl, h⟩
  · cases h
def strV (l : List UInt8) : V := .s (.str ⟨⟨l⟩⟩)

def outS : Eng.Spec
  | [.iface t (.s (.int .i64 n)), .s (.int .i64 lo), .s (.int .i64 hi)] => if t = 3 ∨ t = 2 then .ret (.s (.bool (outB n lo hi))) else .fail
  | _ => .fail
noncomputable def C0 : Cfg := ⟨Tryd.prog, lookG [], [], 0⟩
theorem C0_ok : C0.Ok := Cfg.ok trivial trivial
theorem out_ok : SpecOk Tryd.prog 54 outS := by
  refine (execS_plain C0_ok mixed Tryd.func54 (by kernel_rfl) (by kernel_rfl)).of_den fun args v hfl h => ?_
  clear hfl
  unfold outS at h
  split at h
  · rename_i t n lo hi
    split at h
    · rename_i ht
      simp only [T.eval, Option.some.injEq] at h
      subst h
      have e : execS C0 noLoops 54 [.iface t (.s (.int .i64 n)), .s (.int .i64 lo), .s (.int .i64 hi)] = .ret (.s (.bool (bif decide (n < lo) then true else decide (hi < n)))) := by
        rcases ht with rfl | rfl <;> kernel_rfl
      rw [e]
      exact ⟨_, rfl, ⟨rfl, rfl⟩, by unfold outB; cases decide (n < lo) <;> rfl⟩
    · cases h
  · cases h
def mostS : Eng.Spec
  | [x] => asConf x fun c => .ret (intV (mostC c))
  | _ => .fail
theorem most_ok : SpecOk Tryd.prog 55 mostS := by
  refine (execS_plain C0_ok mixed Tryd.func55 (by kernel_rfl) (by kernel_rfl)).of_den fun args v hfl h => ?_
  clear hfl
  unfold mostS at h
  split at h
  · obtain ⟨c, rfl, h2⟩ := asConf_some h
    obtain rfl := Option.some.inj h2
    clear h h2
    have e : execS C0 noLoops 55 [confV c] = T.ite (some 8) (c.max == 0) (.ret (intV 100)) (.ret (intV c.max)) := by kernel_rfl
    rw [e]
    cases h1 : c.max == 0
    · exact ⟨_, rfl, ⟨rfl, rfl⟩, by simp at h1; simp [intV, V.den, S.den, mostC, h1]⟩
    · exact ⟨_, rfl, ⟨rfl, rfl⟩, by simp at h1; simp [intV, V.den, S.den, mostC, h1]⟩
  · cases h
noncomputable def C1 : Cfg := ⟨Tryd.prog, lookG [(54, outS), (55, mostS)], [], 0⟩
theorem C1_ok : C1.Ok := Cfg.ok ⟨out_ok, most_ok, trivial⟩ trivial
/-- what is asked of settings, in its order -/
def wrongT (c : Cf) : T V :=
  T.ite (some 8) (outB c.target 10 1000000) (.ret (strV [116, 97, 114, 103, 101, 116])) (
  T.ite (some 16) (outB c.util 100 1000) (.ret (strV [117, 116, 105, 108])) (
  T.ite (some 24) (outB c.stable 6 600) (.ret (strV [115, 116, 97, 98, 108, 101])) (
  T.ite (some 32) (outB c.panic 1 c.stable) (.ret (strV [112, 97, 110, 105, 99])) (
  T.ite (some 40) (outB c.grain 1 c.panic) (.ret (strV [103, 114, 97, 105, 110])) (
  T.ite (some 48) (outB c.threshold 1100 10000) (.ret (strV [116, 104, 114, 101, 115, 104, 111, 108, 100])) (
  T.ite (some 56) (outB c.up 1001 1000000) (.ret (strV [117, 112])) (
  T.ite (some 64) (outB c.down 1001 1000000) (.ret (strV [100, 111, 119, 110])) (
  T.ite (some 72) (outB c.min 0 100) (.ret (strV [109, 105, 110])) (
  T.ite (some 96) ((bif c.max != 0 then outB c.max (if 1 > c.min then 1 else c.min) 100 else false)) (.ret (strV [109, 97, 120])) (
  T.ite (some 144) (outB c.initial 0 (mostC c)) (.ret (strV [105, 110, 105, 116, 105, 97, 108])) (
  T.ite (some 160) (outB c.grace 0 600) (.ret (strV [103, 114, 97, 99, 101])) (
  T.ite (some 168) (outB c.delay 0 600) (.ret (strV [100, 101, 108, 97, 121])) (
  T.ite (some 192) ((bif c.burst != -1000 then outB c.burst 0 100000000 else false)) (.ret (strV [98, 117, 114, 115, 116])) (
  T.ite (some 200) (outB c.limit 1 1000) (.ret (strV [108, 105, 109, 105, 116])) (
  T.ite (some 208) (outB c.queue 0 200) (.ret (strV [113, 117, 101, 117, 101])) (
  T.ite (some 216) (outB c.timeout 1 10000) (.ret (strV [116, 105, 109, 101, 111, 117, 116])) (
  T.ite (some 224) (outB c.ready 0 100) (.ret (strV [114, 101, 97, 100, 121])) (
  T.ite (some 232) (outB c.subset 0 100) (.ret (strV [115, 117, 98, 115, 101, 116])) (
  T.ite (some 240) (outB c.sample 0 100) (.ret (strV [115, 97, 109, 112, 108, 101])) (
  .ret (strV [])))))))))))))))))))))
theorem T_step {i : Option Nat} {b : Bool} {x y : T V} {l r : List UInt8} (hx : x.eval = some (strV l)) (hy : y.eval = some (strV r)) : (T.ite i b x y).eval = some (strV (if b = true then l else r)) := by
  cases b
  · exact hy
  · exact hx
theorem bif_ne {n m : Int} {b : Bool} : (bif n != m then b else false) = (!(n == m) && b) := by cases h : n == m <;> simp [bne, h]
theorem max_one (a : Int) : (if 1 > a then 1 else a) = max a 1 := by
  rw [Int.max_def]; split <;> split <;> omega
theorem wrong_eval (c : Cf) : (wrongT c).eval = some (strV (wrongL c)) := by
  unfold wrongT wrongL
  rw [max_one, bif_ne, bif_ne]
  exact T_step rfl (T_step rfl (T_step rfl (T_step rfl (T_step rfl (T_step rfl (T_step rfl (T_step rfl (T_step rfl (T_step rfl (T_step rfl (T_step rfl (T_step rfl (T_step rfl (T_step rfl (T_step rfl (T_step rfl (T_step rfl (T_step rfl (T_step rfl (rfl))))))))))))))))))))
def wrongS : Eng.Spec
  | [x] => asConf x fun c => .ret (strV (wrongL c))
  | _ => .fail
theorem wrong_ok : SpecOk Tryd.prog 36 wrongS := by
  refine (execS_plain C1_ok mixed Tryd.func36 (by kernel_rfl) (by kernel_rfl)).of_den fun args v hfl h => ?_
  clear hfl
  unfold wrongS at h
  split at h
  · obtain ⟨c, rfl, h2⟩ := asConf_some h
    obtain rfl := Option.some.inj h2
    clear h h2
    have e : execS C1 noLoops 36 [confV c] = wrongT c := by kernel_rfl
    rw [e, wrong_eval]
    exact ⟨_, rfl, ⟨rfl, rfl⟩, rfl⟩
  · cases h
noncomputable def C2 : Cfg := ⟨Tryd.prog, lookG [(54, outS), (55, mostS), (36, wrongS)], [], 0⟩
theorem C2_ok : C2.Ok := Cfg.ok ⟨out_ok, most_ok, wrong_ok, trivial⟩ trivial
theorem bytes_empty (l : List UInt8) : ((⟨⟨l⟩⟩ : ByteArray).toList == (⟨#[]⟩ : ByteArray).toList) = l.isEmpty := by
  rw [ByteArray.toList_eq, ByteArray.toList_eq]
  cases l <;> rfl
def mayS : Eng.Spec
  | [x] => asConf x fun c => .ret (.s (.bool (mayB c)))
  | _ => .fail
theorem may_ok : SpecOk Tryd.prog 19 mayS := by
  refine (execS_plain C2_ok mixed Tryd.func19 (by kernel_rfl) (by kernel_rfl)).of_den fun args v hfl h => ?_
  clear hfl
  unfold mayS at h
  split at h
  · obtain ⟨c, rfl, h2⟩ := asConf_some h
    obtain rfl := Option.some.inj h2
    clear h h2
    have e : execS C2 noLoops 19 [confV c] = .ret (.s (.bool ((⟨⟨wrongL c⟩⟩ : ByteArray).toList == (⟨#[]⟩ : ByteArray).toList))) := by kernel_rfl
    rw [e, bytes_empty]
    exact ⟨_, rfl, ⟨rfl, rfl⟩, rfl⟩
  · cases h
def dflt : Cf := ⟨10000, 700, 60, 6, 1, 2000, 10000, 2000, 0, 0, 1, 30, 0, 20000, 10, 100, 60, 3, 0, 0⟩
def dfltS : Eng.Spec
  | [] => .ret (confV dflt)
  | _ => .fail
theorem refdflt_ok : SpecOk Tryd.prog 6 dfltS := by
  refine (execS_plain C0_ok mixed Tryd.func6 (by kernel_rfl) (by kernel_rfl)).of_den fun args v hfl h => ?_
  clear hfl
  unfold dfltS at h
  split at h
  · obtain rfl := Option.some.inj h
    have e : execS C0 noLoops 6 [] = .ret (confV dflt) := by kernel_rfl
    rw [e]
    exact ⟨_, rfl, ⟨rfl, rfl⟩, rfl⟩
  · cases h
end Go.Proofs.YtndcealgackgiaaDoor.Conf

