/- Layer 21: the document's own pods: Enter, Leave, Crash; the loops of Scale. -/
import Derived.Test.YtfnadebkobfemaaLifRe
namespace Go.Proofs.Ytfnadebkobfemaa.Lif
open Go.Eng Go.RowKit
set_option linter.unusedVariables false
set_option linter.unusedSimpArgs false
def updZ (l : List R4) (k : Int) (d : Int) : List R4 := l.set (0 + Int.toNat k) ((g4 l k).1, (g4 l k).2.1, wv ((g4 l k).2.2.1 + d), (g4 l k).2.2.2)
def updY (l : List R4) (k : Int) (d : Int) : List R4 := l.set (0 + Int.toNat k) ((g4 l k).1, (g4 l k).2.1, wv ((g4 l k).2.2.1 - d), (g4 l k).2.2.2)
def hP (K : Nat) (l0 : List R4) (m : Int) (n : Nat) (l : List R4) : Heap := [(0, rfB K m n), (1, podB l0), (K, podB l)]
def qC (g : Bool) (c : Bool) : Bool := bif g == false && true then c else true
theorem qC_is {g c : Bool} (h : g = true ∨ c = true) : qC g c = true := by
  unfold qC
  rcases h with rfl | rfl
  · rfl
  · cases g <;> rfl
def kF (id : Int) (l : List R4) : Int := oF (findI id l)
/-! ### Enter -/
theorem wayEn0 (m id : Int) (n : Nat) (l : List R4) : T.path [true, true, true, true] (enE [.ptr 0 0, iv id] (hR m n l)) = some ([(okN n l, true), (qC (decide (kF id l < 0)) (idR l n (kF id l)), true), (qC (decide (kF id l < 0)) (ldR l (kF id l)), true), (bif decide (kF id l < 0) then true else (g4 l (kF id l)).2.1 != 2, true)], (iv 7, hR m n l)) := by kernel_rfl
theorem wayEn1 (m id : Int) (n : Nat) (l : List R4) : T.path [true, true, true, false, true, true, true, true] (enE [.ptr 0 0, iv id] (hR m n l)) = some ([(okN n l, true), (qC (decide (kF id l < 0)) (idR l n (kF id l)), true), (qC (decide (kF id l < 0)) (ldR l (kF id l)), true), (bif decide (kF id l < 0) then true else (g4 l (kF id l)).2.1 != 2, false), (idR l n (kF id l), true), (ldR l (kF id l), true), (idR l n (kF id l), true), (ldR l (kF id l), true)], (iv 0, hR m n (updZ l (kF id l) 1))) := by kernel_rfl
def enC (args : List V) (h : Heap) : T (V × Heap) := match args with
  | [.ptr 0 0, .s (.int .i64 id)] => opt (dR h) fun x => .ite none (okN x.2.1 x.2.2) (.ret (iv (entP id x.2.2).1, hR x.1 x.2.1 (entP id x.2.2).2)) .fail
  | _ => .fail
theorem enC_ok : ObjOk Try.prog 35 enC := enE_ok.of_eval fun args h v hv => by
  unfold enC at hv
  split at hv
  · rename_i id
    obtain ⟨⟨m, n, l⟩, hd, hv⟩ := opt_eval hv
    have := dR_ok hd
    subst this
    obtain ⟨hc, hv⟩ := ite_some hv
    have hc : okN n l = true := hc
    obtain ⟨h1, h2⟩ := okN_is hc
    simp only [T.eval, Option.some.injEq] at hv
    subst hv
    cases hf : findI id l with
    | none =>
      have hk : kF id l = -1 := by unfold kF; rw [hf]; rfl
      refine (T.path_eval (wayEn0 m id n l) ⟨hc, qC_is (.inl (by rw [hk]; rfl)), qC_is (.inl (by rw [hk]; rfl)), by rw [hk]; rfl, trivial⟩).trans ?_
      unfold entP; simp only [hf]
    | some k =>
      have hk := findI_some hf
      have hfk : kF id l = k := by unfold kF; rw [hf]; rfl
      obtain ⟨x1, x2⟩ := idR_is (g := l) (k := n) (i := (k : Int)) h1 (by omega) (by omega)
      rw [← hfk] at x1 x2
      have hn : decide (kF id l < 0) = false := decide_eq_false (by rw [hfk]; omega)
      cases hs : (g4 l (k : Int)).2.1 != 2
      · refine (T.path_eval (wayEn1 m id n l) ⟨hc, qC_is (.inr x1), qC_is (.inr x2), by rw [hn, hfk]; exact hs, x1, x2, x1, x2, trivial⟩).trans ?_
        unfold entP; simp only [hf, hs, cond_false, hfk]; rfl
      · refine (T.path_eval (wayEn0 m id n l) ⟨hc, qC_is (.inr x1), qC_is (.inr x2), by rw [hn, hfk]; exact hs, trivial⟩).trans ?_
        unfold entP; simp only [hf, hs, cond_true]
  · cases hv
/-! ### Leave -/
def leD (id : Int) (l : List R4) : Bool := bif (g4 (updY l (kF id l) 1) (kF id l)).2.1 == 3 then (g4 (updY l (kF id l) 1) (kF id l)).2.2.1 == 0 else false
theorem wayLe0 (m id : Int) (n : Nat) (l : List R4) : T.path [true, true, true, true] (leE [.ptr 0 0, iv id] (hR m n l)) = some ([(okN n l, true), (qC (decide (kF id l < 0)) (idR l n (kF id l)), true), (qC (decide (kF id l < 0)) (ldR l (kF id l)), true), (bif decide (kF id l < 0) then true else (g4 l (kF id l)).2.2.1 == 0, true)], (iv 7, hR m n l)) := by kernel_rfl
theorem wayLe1 (m id : Int) (n : Nat) (l : List R4) : T.path [true, true, true, false, true, true, true, true, true, true, true, true, false] (leE [.ptr 0 0, iv id] (hR m n l)) = some ([(okN n l, true), (qC (decide (kF id l < 0)) (idR l n (kF id l)), true), (qC (decide (kF id l < 0)) (ldR l (kF id l)), true), (bif decide (kF id l < 0) then true else (g4 l (kF id l)).2.2.1 == 0, false), (idR l n (kF id l), true), (ldR l (kF id l), true), (idR l n (kF id l), true), (ldR l (kF id l), true),
    (idR (updY l (kF id l) 1) n (kF id l), true), (ldR (updY l (kF id l) 1) (kF id l), true), (gC ((g4 (updY l (kF id l) 1) (kF id l)).2.1 == 3) (idR (updY l (kF id l) 1) n (kF id l)), true), (gC ((g4 (updY l (kF id l) 1) (kF id l)).2.1 == 3) (ldR (updY l (kF id l) 1) (kF id l)), true), (leD id l, false)], (iv 0, hR m n (updY l (kF id l) 1))) := by kernel_rfl
theorem wayLe2 (m id : Int) (n : Nat) (l : List R4) : T.path [true, true, true, false, true, true, true, true, true, true, true, true, true, true] (leE [.ptr 0 0, iv id] (hR m n l)) = some ([(okN n l, true), (qC (decide (kF id l < 0)) (idR l n (kF id l)), true), (qC (decide (kF id l < 0)) (ldR l (kF id l)), true), (bif decide (kF id l < 0) then true else (g4 l (kF id l)).2.2.1 == 0, false), (idR l n (kF id l), true), (ldR l (kF id l), true), (idR l n (kF id l), true), (ldR l (kF id l), true),
    (idR (updY l (kF id l) 1) n (kF id l), true), (ldR (updY l (kF id l) 1) (kF id l), true), (gC ((g4 (updY l (kF id l) 1) (kF id l)).2.1 == 3) (idR (updY l (kF id l) 1) n (kF id l)), true), (gC ((g4 (updY l (kF id l) 1) (kF id l)).2.1 == 3) (ldR (updY l (kF id l) 1) (kF id l)), true), (leD id l, true), (okN n (updY l (kF id l) 1) && (decide (0 ≤ kF id l) && decide (kF id l < (n : Int))), true)], (iv 0, hP 66 (updY l (kF id l) 1) m (n - 1) ((updY l (kF id l) 1).eraseIdx (kF id l).toNat))) := by kernel_rfl
def leO (id : Int) (l : List R4) : Bool := match findI id l with
  | none => false
  | some k => bif (g4 l k).2.2.1 == 0 then false else leD id l
def leC (args : List V) (h : Heap) : T (V × Heap) := match args with
  | [.ptr 0 0, .s (.int .i64 id)] => opt (dR h) fun x => .ite none (okN x.2.1 x.2.2) (.ite none (leO id x.2.2) (.ret (iv 0, hP 66 (updY x.2.2 (kF id x.2.2) 1) x.1 (leaP id x.2.2).2.length (leaP id x.2.2).2)) (.ret (iv (leaP id x.2.2).1, hR x.1 (leaP id x.2.2).2.length (leaP id x.2.2).2))) .fail
  | _ => .fail
theorem updY_len (l : List R4) (k : Int) (d : Int) : (updY l k d).length = l.length := List.length_set
theorem leC_ok : ObjOk Try.prog 36 leC := leE_ok.of_eval fun args h v hv => by
  unfold leC at hv
  split at hv
  · rename_i id
    obtain ⟨⟨m, n, l⟩, hd, hv⟩ := opt_eval hv
    have := dR_ok hd
    subst this
    obtain ⟨hc, hv⟩ := ite_some hv
    have hc : okN n l = true := hc
    obtain ⟨h1, h2⟩ := okN_is hc
    cases hf : findI id l with
    | none =>
      have hk : kF id l = -1 := by unfold kF; rw [hf]; rfl
      have ho : leO id l = false := by unfold leO; rw [hf]
      simp only [ho, T.eval, cond_false, Option.some.injEq] at hv
      subst hv
      refine (T.path_eval (wayLe0 m id n l) ⟨hc, qC_is (.inl (by rw [hk]; rfl)), qC_is (.inl (by rw [hk]; rfl)), by rw [hk]; rfl, trivial⟩).trans ?_
      unfold leaP; simp only [hf]; rw [h1]
    | some k =>
      have hk := findI_some hf
      have hfk : kF id l = k := by unfold kF; rw [hf]; rfl
      obtain ⟨x1, x2⟩ := idR_is (g := l) (k := n) (i := (k : Int)) h1 (by omega) (by omega)
      obtain ⟨y1, y2⟩ := idR_is (g := updY l (k : Int) 1) (k := n) (i := (k : Int)) (by rw [updY_len]; exact h1) (by omega) (by omega)
      have eu : updS l k 1 = updY l (k : Int) 1 := rfl
      rw [← hfk] at x1 x2 y1 y2
      have hn : decide (kF id l < 0) = false := decide_eq_false (by rw [hfk]; omega)
      cases hs : (g4 l (k : Int)).2.2.1 == 0
      · cases ht : leD id l
        · have ho : leO id l = false := by unfold leO; simp only [hf, hs, cond_false, ht]
          simp only [ho, T.eval, cond_false, Option.some.injEq] at hv
          subst hv
          refine (T.path_eval (wayLe1 m id n l) ⟨hc, qC_is (.inr x1), qC_is (.inr x2), by rw [hn, hfk]; exact hs, x1, x2, x1, x2, y1, y2, gC_is y1, gC_is y2, ht, trivial⟩).trans ?_
          unfold leD at ht
          rw [cond_and, hfk, ← eu] at ht
          unfold leaP; simp only [hf, hs, ht, cond_false, hfk, updS_len]; rw [h1]; rfl
        · have ho : leO id l = true := by unfold leO; simp only [hf, hs, cond_false, ht]
          simp only [ho, T.eval, cond_true, Option.some.injEq] at hv
          subst hv
          refine (T.path_eval (wayLe2 m id n l) ⟨hc, qC_is (.inr x1), qC_is (.inr x2), by rw [hn, hfk]; exact hs, x1, x2, x1, x2, y1, y2, gC_is y1, gC_is y2, ht, ?_, trivial⟩).trans ?_
          · rw [hfk]
            simp only [Bool.and_eq_true, decide_eq_true_eq]
            exact ⟨decide_eq_true ⟨by rw [updY_len]; exact h1, by rw [updY_len]; exact h2⟩, by omega, by omega⟩
          unfold leD at ht
          rw [cond_and, hfk, ← eu] at ht
          unfold leaP; simp only [hf, hs, ht, cond_true, cond_false, hfk, Int.toNat_natCast, List.length_eraseIdx, updS_len, if_pos hk]; rw [h1]; rfl
      · have ho : leO id l = false := by unfold leO; simp only [hf, hs, cond_true]
        simp only [ho, T.eval, cond_false, Option.some.injEq] at hv
        subst hv
        refine (T.path_eval (wayLe0 m id n l) ⟨hc, qC_is (.inr x1), qC_is (.inr x2), by rw [hn, hfk]; exact hs, trivial⟩).trans ?_
        unfold leaP; simp only [hf, hs, cond_true]; rw [h1]
  · cases hv
/-! ### Crash -/
theorem wayCr1 (m i : Int) (n : Nat) (l : List R4) : T.path [true] (crE [.ptr 0 0, iv i] (hR m n l)) = some ([(cB n i, true)], (.tup [p4 (0, 0, 0, 0), iv 7], hR m n l)) := by kernel_rfl
theorem wayCr0 (m i : Int) (n : Nat) (l : List R4) : T.path [false, true, true, true] (crE [.ptr 0 0, iv i] (hR m n l)) = some ([(cB n i, false), (idR l n i, true), (ldR l i, true), (okN n l && (decide (0 ≤ i) && decide (i < (n : Int))), true)], (.tup [p4 (g4 l i), iv 0], hP 50 l m (n - 1) (l.eraseIdx i.toNat))) := by kernel_rfl
def crC (args : List V) (h : Heap) : T (V × Heap) := match args with
  | [.ptr 0 0, .s (.int .i64 i)] => opt (dR h) fun x => .ite none (okN x.2.1 x.2.2) (.ite none (cB x.2.1 i) (.ret (.tup [p4 (craP i x.2.2).1.1, iv (craP i x.2.2).1.2], hR x.1 (craP i x.2.2).2.length (craP i x.2.2).2)) (.ret (.tup [p4 (craP i x.2.2).1.1, iv (craP i x.2.2).1.2], hP 50 x.2.2 x.1 (craP i x.2.2).2.length (craP i x.2.2).2))) .fail
  | _ => .fail
theorem crC_ok : ObjOk Try.prog 37 crC := crE_ok.of_eval fun args h v hv => by
  unfold crC at hv
  split at hv
  · rename_i i
    obtain ⟨⟨m, n, l⟩, hd, hv⟩ := opt_eval hv
    have := dR_ok hd
    subst this
    obtain ⟨hc, hv⟩ := ite_some hv
    have hc : okN n l = true := hc
    obtain ⟨h1, h2⟩ := okN_is hc
    cases hb : cB n i
    · simp only [hb, T.eval, cond_false, Option.some.injEq] at hv
      subst hv
      have hb' : 0 ≤ i ∧ i < (n : Int) := by
        unfold cB at hb
        cases q : decide (i < 0)
        · rw [q] at hb; have := of_decide_eq_false q; have := of_decide_eq_false hb; omega
        · rw [q] at hb; cases hb
      obtain ⟨x1, x2⟩ := idR_is (g := l) (k := n) (i := i) h1 hb'.1 hb'.2
      refine (T.path_eval (wayCr0 m i n l) ⟨hb, x1, x2, by rw [hc, decide_eq_true hb'.1, decide_eq_true hb'.2]; rfl, trivial⟩).trans ?_
      unfold craP
      rw [decide_eq_false (show ¬ i < 0 by omega), decide_eq_false (show ¬ (l.length : Int) ≤ i by omega)]
      simp only [Bool.or_false, cond_false, List.length_eraseIdx, if_pos (show i.toNat < l.length by omega)]
      rw [h1]
    · simp only [hb, T.eval, cond_true, Option.some.injEq] at hv
      subst hv
      refine (T.path_eval (wayCr1 m i n l) ⟨hb, trivial⟩).trans ?_
      unfold craP
      have : (decide (i < 0) || decide ((l.length : Int) ≤ i)) = true := by
        unfold cB at hb
        rw [← h1]
        cases q : decide (i < 0)
        · rw [q] at hb; rw [show decide ((n : Int) ≤ i) = true from hb]; rfl
        · rfl
      rw [this]
      simp only [cond_true]
      rw [h1]
  · cases hv
/-! ### Scale -/
noncomputable def lpQa : Code := loopAt Try.prog 33 0
structure PQa where (want : Int) (now : Int) (l0 : List R4) (m0 : Int)
structure AQa where (m : Int) (n : Nat) (l : List R4)
abbrev SQa : List (Nat × Src) := [(0, .same), (1000, .cell 0 0)]
def vsQa (p : PQa) (a : AQa) : List V := [.ptr 0 0, iv p.want, iv p.now]
def bsQa (p : PQa) (a : AQa) : List Blk := [.cells 49 [.sub 1000 4 0 a.n, iv a.m], .lst true 39 [.int .i64, .int .i64, .int .i64, .int .i64] a.l]
noncomputable def FQa (p : PQa) (a : AQa) : St := mkSt [0,1,2] (keysR SQa) 1001 94 (vsQa p a) (bsQa p a)
noncomputable def rdQa (p : PQa) (a : AQa) : T (Ex × St) := T.anon (roundN JRa noLoops lpQa [0,1,2] SQa 1000 1001 (mkSt [0,1,2] (keysR SQa) 1001 94 (vsQa p a) (bsQa p a)))
def decQa : List V → List Blk → Option (PQa × AQa)
  | [.ptr 0 0, .s (.int .i64 want), .s (.int .i64 now)], [.cells tt0 [.sub 1000 4 0 n, .s (.int .i64 m)], .lst true tt1 [.int .i64, .int .i64, .int .i64, .int .i64] l] =>
    if tt0 = 49 then if tt1 = 39 then some (⟨want, now, l, m⟩, ⟨m, n, l⟩) else none else none
  | _, _ => none
theorem decQa_ok (l : List V) (b : List Blk) (d : PQa × AQa) (h : decQa l b = some d) : l = vsQa d.1 d.2 ∧ b = bsQa d.1 d.2 := by
  unfold decQa at h
  split at h
  · obtain ⟨e0, h⟩ := ite_some0 h
    obtain ⟨e1, h⟩ := ite_some0 h
    subst e0 e1
    cases h
    exact ⟨rfl, rfl⟩
  · cases h
noncomputable def rgQa : Nat := (firstReg lpQa).getD 0
theorem rgQa_is : firstReg lpQa = some rgQa := by kernel_rfl
noncomputable def lpQb : Code := loopAt Try.prog 33 1
structure PQb where (want : Int) (now : Int) (m : Int) (l0 : List R4)
structure AQb where (n : Nat) (l : List R4)
abbrev SQb : List (Nat × Src) := [(0, .same), (2000, .cell 0 0)]
def vsQb (p : PQb) (a : AQb) : List V := [.ptr 0 0, iv p.want, iv p.now]
def bsQb (p : PQb) (a : AQb) : List Blk := [.cells 49 [.sub 2000 4 0 a.n, iv p.m], .lst true 39 [.int .i64, .int .i64, .int .i64, .int .i64] a.l]
noncomputable def FQb (p : PQb) (a : AQb) : St := mkSt [0,1,2] (keysR SQb) 2001 94 (vsQb p a) (bsQb p a)
noncomputable def rdQb (p : PQb) (a : AQb) : T (Ex × St) := T.anon (roundN JRa noLoops lpQb [0,1,2] SQb 2000 2001 (mkSt [0,1,2] (keysR SQb) 2001 94 (vsQb p a) (bsQb p a)))
def decQb : List V → List Blk → Option (PQb × AQb)
  | [.ptr 0 0, .s (.int .i64 want), .s (.int .i64 now)], [.cells tt0 [.sub 2000 4 0 n, .s (.int .i64 m)], .lst true tt1 [.int .i64, .int .i64, .int .i64, .int .i64] l] =>
    if tt0 = 49 then if tt1 = 39 then some (⟨want, now, m, l⟩, ⟨n, l⟩) else none else none
  | _, _ => none
theorem decQb_ok (l : List V) (b : List Blk) (d : PQb × AQb) (h : decQb l b = some d) : l = vsQb d.1 d.2 ∧ b = bsQb d.1 d.2 := by
  unfold decQb at h
  split at h
  · obtain ⟨e0, h⟩ := ite_some0 h
    obtain ⟨e1, h⟩ := ite_some0 h
    subst e0 e1
    cases h
    exact ⟨rfl, rfl⟩
  · cases h
noncomputable def rgQb : Nat := (firstReg lpQb).getD 0
theorem rgQb_is : firstReg lpQb = some rgQb := by kernel_rfl
end Go.Proofs.Ytfnadebkobfemaa.Lif
