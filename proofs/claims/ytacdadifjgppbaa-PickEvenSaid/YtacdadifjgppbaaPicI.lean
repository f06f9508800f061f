/- Layer 19: PickEven, its inner loop. -/
import Derived.Test.YtacdadifjgppbaaPicH
namespace Go.Proofs.Ytacdadifjgppbaa.Pic
open Go.Eng Go.RowKit Go.Flt Lod Brk
set_option linter.unusedVariables false
set_option linter.unusedSimpArgs false
noncomputable def lv1 : Code := loopAt Try.prog 17 0
noncomputable def lv2 : Code := (loopsIn lv1).getD 0 .skip
noncomputable def lv3 : Code := loopAt Try.prog 17 1
structure PI where (p m k : Int) (W : List Int) (n : Nat) (e i : Int)
structure AI where (z : List (Nat × Nat)) (j : Nat) (q : Int)
def rWI (l : List Int) : Blk := .lst true 3 [.int .i64] l
def vsI (p : PI) (a : AI) : List V := [iv p.p, iv p.m, iv p.k, .sub 0 1 0 p.n, iv p.e, iv p.i, .sub 3000 1 0 a.j, iv a.q]
def bsI (p : PI) (a : AI) : List Blk := [rWI p.W, .lst true 23 CX a.z]
abbrev SI : List (Nat × Src) := [(0, .same), (3000, .tmp 13)]
noncomputable def FI (p : PI) (a : AI) : St := mkSt [7,8,9,10,11,12,13,14] [0,3000] 3001 132 (vsI p a) (bsI p a)
noncomputable def rdI (p : PI) (a : AI) : T (Ex × St) := T.anon (roundN C3 noLoops lv2 [7,8,9,10,11,12,13,14] SI 3000 3001 (mkSt [7,8,9,10,11,12,13,14] (keysR SI) 3001 132 (vsI p a) (bsI p a)))
def ix (p : PI) (a : AI) : Nat × Nat := (fW (gI p.W a.q), fW 0)
theorem wayI (p : PI) (a : AI) : T.path [true, true, true, true] (rdI p a) = some ([(decide (a.q < p.p), true), (idI p.W p.n a.q, true), (ldI p.W a.q, true), (true && (decide (a.j ≤ a.z.length) && decide (a.j + [ix p a].length ≤ 1000000)), true)], (.normal, FI p ⟨List.take a.j a.z ++ [ix p a], a.j + [ix p a].length, IntKind.wrap .i64 (a.q + 1)⟩)) := by kernel_rfl
theorem wayIx (p : PI) (a : AI) : T.path [false] (rdI p a) = some ([(decide (a.q < p.p), false)], (.exit 2, FI p a)) := by kernel_rfl
def loads (W : List Int) : List (Nat × Nat) := W.map fun b => (fW b, fW 0)
def okI (p : PI) (a : AI) : Prop := p.n = p.W.length ∧ p.p = p.W.length ∧ p.W.length ≤ 20 ∧ a.j = a.z.length ∧ a.q = a.z.length ∧ a.q ≤ p.p ∧ a.z = (loads p.W).take a.z.length
def goI (p : PI) (a : AI) : Bool := decide (a.q < p.p)
def muI (p : PI) (a : AI) : Nat := (p.p - a.q).toNat
theorem loads_get {W : List Int} {n : Nat} (h : n < W.length) : (loads W)[n]? = some (fW W[n], fW 0) := by simp [loads, h]
theorem gI_get {W : List Int} {i : Int} {n : Nat} (h : n < W.length) (e : i = n) : gI W i = W[n] := by
  unfold gI
  rw [List.getD_eq_getElem?_getD, show 0 + i.toNat = n by omega, List.getElem?_eq_getElem h]; rfl
theorem stepI (p : PI) (a : AI) (h : okI p a) (hg : goI p a = true) : ∃ b, stepC okI rdI FI muI p a b := by
  obtain ⟨h1, h2, h3, h4, h5, h6, h7⟩ := id h
  have hq : a.q < p.p := of_decide_eq_true hg
  have hw : IntKind.wrap .i64 (a.q + 1) = a.q + 1 := wrap64_in (by omega) (by omega)
  have l1 : ldI p.W a.q = true := decide_eq_true (by omega)
  have i1 : idI p.W p.n a.q = true := by
    unfold idI
    rw [decide_eq_true (show 0 ≤ a.q by omega), decide_eq_true (show a.q < (p.n : Int) by omega), decide_eq_true (show 0 + a.q.toNat < p.W.length by omega)]; rfl
  refine ⟨_, T.path_eval (wayI p a) ⟨hg, i1, l1, ?_, trivial⟩, ⟨h1, h2, h3, ?_, ?_, ?_, ?_⟩, ?_⟩
  · rw [decide_eq_true (show a.j ≤ a.z.length by omega), decide_eq_true (show a.j + [ix p a].length ≤ 1000000 by simp; omega)]; rfl
  · show a.j + [ix p a].length = (List.take a.j a.z ++ [ix p a]).length
    rw [h4]; simp
  · show IntKind.wrap .i64 (a.q + 1) = ((List.take a.j a.z ++ [ix p a]).length : Int)
    rw [hw, h4]; simp; omega
  · show IntKind.wrap .i64 (a.q + 1) ≤ p.p; rw [hw]; omega
  · show List.take a.j a.z ++ [ix p a] = (loads p.W).take (List.take a.j a.z ++ [ix p a]).length
    rw [h4, List.take_length, List.length_append, List.length_singleton]
    have hl : a.z.length < p.W.length := by omega
    rw [List.take_add_one, ← h7, loads_get hl]
    show a.z ++ [ix p a] = a.z ++ [(fW p.W[a.z.length], fW 0)]
    unfold ix
    rw [gI_get hl h5]
  · show (p.p - IntKind.wrap .i64 (a.q + 1)).toNat < (p.p - a.q).toNat
    rw [hw]; omega
theorem exI (p : PI) (a : AI) (h : okI p a) (hg : goI p a = false) : (rdI p a).eval = some (.exit 2, FI p a) := T.path_eval (wayIx p a) ⟨hg, trivial⟩
def decI : List V → List Blk → Option (PI × AI)
  | [.s (.int .i64 p), .s (.int .i64 m), .s (.int .i64 k), .sub 0 1 0 n, .s (.int .i64 e), .s (.int .i64 i), .sub 3000 1 0 j, .s (.int .i64 q)], [.lst true t0 [.int .i64] W, .lst true t1 [.cx .f64] z] => if t0 = 3 then if t1 = 23 then some (⟨p, m, k, W, n, e, i⟩, ⟨z, j, q⟩) else none else none
  | _, _ => none
theorem decI_ok (l : List V) (b : List Blk) (d : PI × AI) (h : decI l b = some d) : l = vsI d.1 d.2 ∧ b = bsI d.1 d.2 := by
  unfold decI at h
  split at h
  · split at h
    · rename_i ht0
      split at h
      · rename_i ht1
        subst ht0 ht1
        cases h
        exact ⟨rfl, rfl⟩
      · cases h
    · cases h
  · cases h
noncomputable def famI : LSpec := famC [7,8,9,10,11,12,13,14] SI 3000 3001 132 decI okI goI rdI FI muI (.exit 2)
theorem lpI_ok : LoopOk C3 lv2 famI := famC_ok (vs := vsI) (bs := bsI) C3_ok mixed (noLoops_ok _) decI_ok (by simp) (fun _ _ => rfl) (fun _ _ => rfl) stepI exI
noncomputable def ilist : List (Nat × LSpec) := [(9, famI)]
theorem ireg : firstReg lv2 = some 9 := by kernel_rfl
theorem iloops : loopsIn lv1 = [lv2] := by kernel_rfl
/-- as it stands, never looked into -/
structure LoopsOkS (C : Cfg) (Λ : Loops) (c : Code) : Prop where
  ok : LoopsOk C Λ c
theorem ilps_gen (c : Code) (e : loopsIn c = [lv2]) : LoopsOkS C3 (byReg ilist) c := ⟨loopsOk_of c (by
  rw [e]
  intro a ha
  rcases List.mem_cons.1 ha with q | ha
  · rw [q]; exact byReg_mem ireg rfl lpI_ok
  · cases ha)⟩
theorem ilps_ok : LoopsOkS C3 (byReg ilist) lv1 := ilps_gen lv1 iloops
structure PO where (p m k : Int)
structure AO where (W : List Int) (n : Nat) (e i : Int)
abbrev SO : List (Nat × Src) := [(0, .same)]
def vsO (p : PO) (a : AO) : List V := [iv p.p, iv p.m, iv p.k, .sub 0 1 0 a.n, iv a.e, iv a.i]
def bsO (a : AO) : List Blk := [rWI a.W]
noncomputable def FO (p : PO) (a : AO) : St := mkSt [7,8,9,10,11,12] [0] 1000 132 (vsO p a) (bsO a)
noncomputable def rdO (p : PO) (a : AO) : T (Ex × St) := T.anon (roundN C3 (byReg ilist) lv1 [7,8,9,10,11,12] SO 1000 1000 (mkSt [7,8,9,10,11,12] (keysR SO) 1000 132 (vsO p a) (bsO a)))
structure PT where (p m k : Int) (W : List Int) (n : Nat) (e : Int)
structure AT where (i : Int)
def vsT (p : PT) (a : AT) : List V := [iv p.p, iv p.m, iv p.k, .sub 0 1 0 p.n, iv p.e, iv a.i]
def bsT (p : PT) : List Blk := [rWI p.W]
noncomputable def FT (p : PT) (a : AT) : St := mkSt [7,8,9,10,11,16] [0] 1000 132 (vsT p a) (bsT p)
noncomputable def rdT (p : PT) (a : AT) : T (Ex × St) := T.anon (roundN C3 noLoops lv3 [7,8,9,10,11,16] SO 1000 1000 (mkSt [7,8,9,10,11,16] (keysR SO) 1000 132 (vsT p a) (bsT p)))
end Go.Proofs.Ytacdadifjgppbaa.Pic
