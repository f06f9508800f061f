/- Layer 19: the functions of pick; told. -/
import Derived.Test.YtacdadifjgppbaaPicA
namespace Go.Proofs.Ytacdadifjgppbaa.Pic
open Go.Eng Go.RowKit Go.Flt Lod Brk
set_option linter.unusedVariables false
set_option linter.unusedSimpArgs false
def decA : List V → List Blk → Option (PA × AA)
  | [.sub 0 1 0 k, .s (.int .i64 m), .s (.int .i64 b), .sub 0 1 0 k', .s (.int .i64 c), .s (.int .i64 i)], [.lst false t [.cx .f64] g] => if t = 23 then some (⟨g, k, k', m, c⟩, ⟨b, i⟩) else none
  | _, _ => none
theorem decA_ok (l : List V) (b : List Blk) (d : PA × AA) (h : decA l b = some d) : l = vsA d.1 d.2 ∧ b = bsA d.1 := by
  unfold decA at h
  split at h
  · split at h
    · rename_i ht
      subst ht
      cases h
      exact ⟨rfl, rfl⟩
    · cases h
  · cases h
def decB : List V → List Blk → Option (PA × AA)
  | [.s (.int .i64 m), .s (.int .i64 b), .sub 0 1 0 k', .s (.int .i64 c), .s (.int .i64 i)], [.lst false t [.cx .f64] g] => if t = 23 then some (⟨g, k', k', m, c⟩, ⟨b, i⟩) else none
  | _, _ => none
theorem decB_ok (l : List V) (b : List Blk) (d : PA × AA) (h : decB l b = some d) : l = vsB d.1 d.2 ∧ b = bsA d.1 := by
  unfold decB at h
  split at h
  · split at h
    · rename_i ht
      subst ht
      cases h
      exact ⟨rfl, rfl⟩
    · cases h
  · cases h
noncomputable def famA : LSpec := famC [0,1,5,8,9,10] S1 1000 1000 34 decA okA goA rdA FA muA (.exit 0)
theorem lpA_ok : LoopOk C1 lpA famA := famC_ok (vs := vsA) (bs := fun p _ => bsA p) C1_ok mixed (noLoops_ok _) decA_ok (by simp) (fun _ _ => rfl) (fun _ _ => rfl) stepA exA
noncomputable def famF : LSpec := famD [0,1,4,7,8,9] S1 1000 1000 20 decA okF goF rdF FF muA outF
theorem lpF_ok : LoopOk C1 lpF famF := famD_ok (vs := vsA) (bs := fun p _ => bsA p) C1_ok mixed (noLoops_ok _) decA_ok (fun _ _ => rfl) (fun _ _ => rfl) stepF exF
noncomputable def famS : LSpec := famC [1,5,12,13,14] S1 1000 1000 32 decB okS goA rdB FB muA (.exit 0)
theorem lpS_ok : LoopOk C1 lpS famS := famC_ok (vs := vsB) (bs := fun p _ => bsA p) C1_ok mixed (noLoops_ok _) decB_ok (by simp) (fun _ _ => rfl) (fun _ _ => rfl) stepS exS
noncomputable def alist : List (Nat × LSpec) := [(3, famA)]
noncomputable def flist : List (Nat × LSpec) := [(2, famF)]
noncomputable def slist : List (Nat × LSpec) := [(4, famS)]
theorem areg : firstReg lpA = some 3 := by kernel_rfl
theorem freg : firstReg lpF = some 2 := by kernel_rfl
theorem sreg : firstReg lpS = some 4 := by kernel_rfl
theorem one_lp {c : Code} {n : Nat} {sp : LSpec} {C : Cfg} {f : Nat} (e : loopsIn (codeOf Try.prog f) = [c]) (hr : firstReg c = some n) (h : LoopOk C c sp) : ∀ a ∈ loopsIn (codeOf Try.prog f), ∀ s, byReg [(n, sp)] a = some s → LoopOk C a s := by
  rw [e]
  intro a ha
  rcases List.mem_cons.1 ha with q | ha
  · rw [q]; exact byReg_mem hr (by simp [findL]) h
  · cases ha
noncomputable def leastS : Eng.Spec := execS C1 (byReg alist) 55
theorem leastS_ok : SpecOk Try.prog 55 leastS := execS_loops C1_ok mixed Try.func55 (by kernel_rfl) (by kernel_rfl) (one_lp (c := lpA) (by kernel_rfl) areg lpA_ok)
noncomputable def firstS : Eng.Spec := execS C1 (byReg flist) 56
theorem firstS_ok : SpecOk Try.prog 56 firstS := execS_loops C1_ok mixed Try.func56 (by kernel_rfl) (by kernel_rfl) (one_lp (c := lpF) (by kernel_rfl) freg lpF_ok)
noncomputable def spareS : Eng.Spec := execS C1 (byReg slist) 57
theorem spareS_ok : SpecOk Try.prog 57 spareS := execS_loops C1_ok mixed Try.func57 (by kernel_rfl) (by kernel_rfl) (one_lp (c := lpS) (by kernel_rfl) sreg lpS_ok)
def pA (l : List (Nat × Nat)) (m : Int) : PA := ⟨l, l.length, l.length, m, l.length⟩
noncomputable def eA (l : List (Nat × Nat)) (m : Int) : AA := endW (nxtC okA goA rdA FA muA (pA l m)) ⟨-1, 0⟩
noncomputable def eF (l : List (Nat × Nat)) (m : Int) : AA := endW (nxtC okF goF rdF FF muA (pA l m)) ⟨0, 0⟩
noncomputable def eS (l : List (Nat × Nat)) (m : Int) : AA := endW (nxtC okS goA rdB FB muA (pA l m)) ⟨0, 0⟩
def clampL (m : Int) : Int := if 1099511627776 < if 0 > m then 0 else m then 1099511627776 else if 0 > m then 0 else m
theorem least_run (l : List (Nat × Nat)) (m : Int) : T.anon (leastS [.orow 23 CX l, iv m]) = .ite none (invC okA (pA l m) ⟨-1, 0⟩) (.ret (iv (eA l m).b)) .fail := by kernel_rfl
theorem first_run (l : List (Nat × Nat)) (m : Int) : T.anon (firstS [.orow 23 CX l, iv m]) = .ite none (invC okF (pA l m) ⟨0, 0⟩) (.ite none (hitF (pA l m) (eF l m)) (.ret (iv (eF l m).i)) (.ret (iv (-1)))) .fail := by kernel_rfl
theorem spare_run (l : List (Nat × Nat)) (m : Int) : T.anon (spareS [.orow 23 CX l, iv m]) = .ite none (invC okS (pA l (clampL m)) ⟨0, 0⟩) (.ret (iv (eS l (clampL m)).b)) .fail := by kernel_rfl
end Go.Proofs.Ytacdadifjgppbaa.Pic
