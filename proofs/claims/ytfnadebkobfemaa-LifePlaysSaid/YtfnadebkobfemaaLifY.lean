/- Layer 21: dismiss, Enter, Leave, Crash, told plainly; the loops of Scale. -/
import Derived.Test.YtfnadebkobfemaaLifX
namespace Go.Proofs.Ytfnadebkobfemaa.Lif
open Go.Eng Go.RowKit
set_option linter.unusedVariables false
set_option linter.unusedSimpArgs false
def hK (K : Nat) (m : Int) (n : Nat) (l : List R4) : Heap := [(0, lifB K m n), (K, podB l)]
def fJ (id : Int) (l : List R4) : Nat := (findI id l).getD 0
/-! ### Enter -/
theorem wayE0 (m id : Int) (n : Nat) (l : List R4) : T.path [true, false] (entE [.ptr 0 0, iv id] (hL m n l)) = some ([(okN n l, true), ((findI id l).isSome, false)], (iv 7, hL m n l)) := by kernel_rfl
theorem wayE1 (m id : Int) (n : Nat) (l : List R4) : T.path [true, true, true, true, true] (entE [.ptr 0 0, iv id] (hL m n l)) = some ([(okN n l, true), ((findI id l).isSome, true), (idR l n (fJ id l : Nat), true), (ldR l (fJ id l : Nat), true), ((g4 l (fJ id l : Nat)).2.1 != 2, true)], (iv 7, hL m n l)) := by kernel_rfl
theorem wayE2 (m id : Int) (n : Nat) (l : List R4) : T.path [true, true, true, true, false, true, true, true, true] (entE [.ptr 0 0, iv id] (hL m n l)) = some ([(okN n l, true), ((findI id l).isSome, true), (idR l n (fJ id l : Nat), true), (ldR l (fJ id l : Nat), true), ((g4 l (fJ id l : Nat)).2.1 != 2, false), (idR l n (fJ id l : Nat), true), (ldR l (fJ id l : Nat), true), (idR l n (fJ id l : Nat), true), (ldR l (fJ id l : Nat), true)], (iv 0, hL m n (upd l (fJ id l) 1))) := by kernel_rfl
def entC (args : List V) (h : Heap) : T (V × Heap) := match args with
  | [.ptr 0 0, .s (.int .i64 id)] => opt (dH h) fun x => .ite none (okN x.2.1 x.2.2) (.ret (iv (entP id x.2.2).1, hL x.1 x.2.1 (entP id x.2.2).2)) .fail
  | _ => .fail
theorem entC_ok : ObjOk Try.prog 27 entC := entE_ok.of_eval fun args h v hv => by
  unfold entC at hv
  split at hv
  · rename_i id
    obtain ⟨⟨m, n, l⟩, hd, hv⟩ := opt_eval hv
    have := dH_ok hd
    subst this
    obtain ⟨hc, hv⟩ := ite_some hv
    have hc : okN n l = true := hc
    obtain ⟨h1, h2⟩ := okN_is hc
    simp only [T.eval, Option.some.injEq] at hv
    subst hv
    cases hf : findI id l with
    | none =>
      refine (T.path_eval (wayE0 m id n l) ⟨hc, by rw [hf]; rfl, trivial⟩).trans ?_
      unfold entP; simp only [hf]
    | some k =>
      have hk := findI_some hf
      have hfk : fJ id l = k := by unfold fJ; rw [hf]; rfl
      obtain ⟨x1, x2⟩ := idR_is (g := l) (k := n) (i := (k : Int)) h1 (by omega) (by omega)
      rw [← hfk] at x1 x2
      cases hs : (g4 l (k : Int)).2.1 != 2
      · refine (T.path_eval (wayE2 m id n l) ⟨hc, by rw [hf]; rfl, x1, x2, by rw [hfk]; exact hs, x1, x2, x1, x2, trivial⟩).trans ?_
        unfold entP; simp only [hf, hs, cond_false, hfk]
      · refine (T.path_eval (wayE1 m id n l) ⟨hc, by rw [hf]; rfl, x1, x2, by rw [hfk]; exact hs, trivial⟩).trans ?_
        unfold entP; simp only [hf, hs, cond_true]
  · cases hv
/-! ### Leave -/
theorem wayL0 (m id : Int) (n : Nat) (l : List R4) : T.path [true, false] (leaE [.ptr 0 0, iv id] (hL m n l)) = some ([(okN n l, true), ((findI id l).isSome, false)], (iv 7, hL m n l)) := by kernel_rfl
theorem wayL1 (m id : Int) (n : Nat) (l : List R4) : T.path [true, true, true, true, true] (leaE [.ptr 0 0, iv id] (hL m n l)) = some ([(okN n l, true), ((findI id l).isSome, true), (idR l n (fJ id l : Nat), true), (ldR l (fJ id l : Nat), true), ((g4 l (fJ id l : Nat)).2.2.1 == 0, true)], (iv 7, hL m n l)) := by kernel_rfl
def gC (g : Bool) (c : Bool) : Bool := bif g == true && true then c else true
theorem gC_is {g c : Bool} (h : c = true) : gC g c = true := by subst h; unfold gC; cases g <;> rfl
theorem wayL2 (m id : Int) (n : Nat) (l : List R4) : T.path [true, true, true, true, false, true, true, true, true, true, true, true, true, false] (leaE [.ptr 0 0, iv id] (hL m n l)) = some ([(okN n l, true), ((findI id l).isSome, true), (idR l n (fJ id l : Nat), true), (ldR l (fJ id l : Nat), true), ((g4 l (fJ id l : Nat)).2.2.1 == 0, false),
    (idR l n (fJ id l : Nat), true), (ldR l (fJ id l : Nat), true), (idR l n (fJ id l : Nat), true), (ldR l (fJ id l : Nat), true), (idR (updS l (fJ id l) 1) n (fJ id l : Nat), true), (ldR (updS l (fJ id l) 1) (fJ id l : Nat), true),
    (gC ((g4 (updS l (fJ id l) 1) (fJ id l : Nat)).2.1 == 3) (idR (updS l (fJ id l) 1) n (fJ id l : Nat)), true), (gC ((g4 (updS l (fJ id l) 1) (fJ id l : Nat)).2.1 == 3) (ldR (updS l (fJ id l) 1) (fJ id l : Nat)), true),
    (bif (g4 (updS l (fJ id l) 1) (fJ id l : Nat)).2.1 == 3 then (g4 (updS l (fJ id l) 1) (fJ id l : Nat)).2.2.1 == 0 else false, false)], (iv 0, hL m n (updS l (fJ id l) 1))) := by kernel_rfl
theorem wayL3 (m id : Int) (n : Nat) (l : List R4) : T.path [true, true, true, true, false, true, true, true, true, true, true, true, true, true, true] (leaE [.ptr 0 0, iv id] (hL m n l)) = some ([(okN n l, true), ((findI id l).isSome, true), (idR l n (fJ id l : Nat), true), (ldR l (fJ id l : Nat), true), ((g4 l (fJ id l : Nat)).2.2.1 == 0, false),
    (idR l n (fJ id l : Nat), true), (ldR l (fJ id l : Nat), true), (idR l n (fJ id l : Nat), true), (ldR l (fJ id l : Nat), true), (idR (updS l (fJ id l) 1) n (fJ id l : Nat), true), (ldR (updS l (fJ id l) 1) (fJ id l : Nat), true),
    (gC ((g4 (updS l (fJ id l) 1) (fJ id l : Nat)).2.1 == 3) (idR (updS l (fJ id l) 1) n (fJ id l : Nat)), true), (gC ((g4 (updS l (fJ id l) 1) (fJ id l : Nat)).2.1 == 3) (ldR (updS l (fJ id l) 1) (fJ id l : Nat)), true),
    (bif (g4 (updS l (fJ id l) 1) (fJ id l : Nat)).2.1 == 3 then (g4 (updS l (fJ id l) 1) (fJ id l : Nat)).2.2.1 == 0 else false, true), (okN n (updS l (fJ id l) 1) && (decide ((0 : Int) ≤ (fJ id l : Nat)) && decide (((fJ id l : Nat) : Int) < (n : Int))), true)], (iv 0, hL m (n - 1) ((updS l (fJ id l) 1).eraseIdx (Int.toNat (fJ id l : Nat))))) := by kernel_rfl
def leaC (args : List V) (h : Heap) : T (V × Heap) := match args with
  | [.ptr 0 0, .s (.int .i64 id)] => opt (dH h) fun x => .ite none (okN x.2.1 x.2.2) (.ret (iv (leaP id x.2.2).1, hL x.1 (leaP id x.2.2).2.length (leaP id x.2.2).2)) .fail
  | _ => .fail
theorem updS_len (l : List R4) (k : Nat) (d : Int) : (updS l k d).length = l.length := List.length_set
theorem leaC_ok : ObjOk Try.prog 29 leaC := leaE_ok.of_eval fun args h v hv => by
  unfold leaC at hv
  split at hv
  · rename_i id
    obtain ⟨⟨m, n, l⟩, hd, hv⟩ := opt_eval hv
    have := dH_ok hd
    subst this
    obtain ⟨hc, hv⟩ := ite_some hv
    have hc : okN n l = true := hc
    obtain ⟨h1, h2⟩ := okN_is hc
    simp only [T.eval, Option.some.injEq] at hv
    subst hv
    cases hf : findI id l with
    | none =>
      refine (T.path_eval (wayL0 m id n l) ⟨hc, by rw [hf]; rfl, trivial⟩).trans ?_
      unfold leaP; simp only [hf]; rw [h1]
    | some k =>
      have hk := findI_some hf
      have hfk : fJ id l = k := by unfold fJ; rw [hf]; rfl
      obtain ⟨x1, x2⟩ := idR_is (g := l) (k := n) (i := (k : Int)) h1 (by omega) (by omega)
      obtain ⟨y1, y2⟩ := idR_is (g := updS l k 1) (k := n) (i := (k : Int)) (by rw [updS_len]; exact h1) (by omega) (by omega)
      cases hs : (g4 l (k : Int)).2.2.1 == 0
      · cases ht : (bif (g4 (updS l k 1) (k : Int)).2.1 == 3 then (g4 (updS l k 1) (k : Int)).2.2.1 == 0 else false)
        · refine (T.path_eval (wayL2 m id n l) ⟨hc, by rw [hf]; rfl, by rw [hfk]; exact x1, by rw [hfk]; exact x2, by rw [hfk]; exact hs, by rw [hfk]; exact x1, by rw [hfk]; exact x2, by rw [hfk]; exact x1, by rw [hfk]; exact x2, by rw [hfk]; exact y1, by rw [hfk]; exact y2, gC_is (by rw [hfk]; exact y1), gC_is (by rw [hfk]; exact y2), by rw [hfk]; exact ht, trivial⟩).trans ?_
          rw [cond_and] at ht
          unfold leaP; simp only [hf, hs, ht, cond_false, hfk, updS_len]; rw [h1]
        · refine (T.path_eval (wayL3 m id n l) ⟨hc, by rw [hf]; rfl, by rw [hfk]; exact x1, by rw [hfk]; exact x2, by rw [hfk]; exact hs, by rw [hfk]; exact x1, by rw [hfk]; exact x2, by rw [hfk]; exact x1, by rw [hfk]; exact x2, by rw [hfk]; exact y1, by rw [hfk]; exact y2, gC_is (by rw [hfk]; exact y1), gC_is (by rw [hfk]; exact y2), by rw [hfk]; exact ht, ?_, trivial⟩).trans ?_
          · rw [hfk]
            simp only [Bool.and_eq_true, decide_eq_true_eq]
            exact ⟨decide_eq_true ⟨by rw [updS_len]; exact h1, by rw [updS_len]; exact h2⟩, by omega, by omega⟩
          rw [cond_and] at ht
          unfold leaP; simp only [hf, hs, ht, cond_true, cond_false, hfk, Int.toNat_natCast, List.length_eraseIdx, updS_len, if_pos hk]; rw [h1]
      · refine (T.path_eval (wayL1 m id n l) ⟨hc, by rw [hf]; rfl, by rw [hfk]; exact x1, by rw [hfk]; exact x2, by rw [hfk]; exact hs, trivial⟩).trans ?_
        unfold leaP; simp only [hf, hs, cond_true]; rw [h1]
  · cases hv
/-! ### Crash -/
def cB (n : Nat) (i : Int) : Bool := bif decide (i < 0) then true else decide ((n : Int) ≤ i)
theorem wayC1 (m i : Int) (n : Nat) (l : List R4) : T.path [true] (craE [.ptr 0 0, iv i] (hL m n l)) = some ([(cB n i, true)], (.tup [p4 (0, 0, 0, 0), iv 7], hL m n l)) := by kernel_rfl
theorem wayC0 (m i : Int) (n : Nat) (l : List R4) : T.path [false, true, true, true] (craE [.ptr 0 0, iv i] (hL m n l)) = some ([(cB n i, false), (idR l n i, true), (ldR l i, true), (okN n l && (decide (0 ≤ i) && decide (i < (n : Int))), true)], (.tup [p4 (g4 l i), iv 0], hL m (n - 1) (l.eraseIdx i.toNat))) := by kernel_rfl
def craC (args : List V) (h : Heap) : T (V × Heap) := match args with
  | [.ptr 0 0, .s (.int .i64 i)] => opt (dH h) fun x => .ite none (okN x.2.1 x.2.2) (.ret (.tup [p4 (craP i x.2.2).1.1, iv (craP i x.2.2).1.2], hL x.1 (craP i x.2.2).2.length (craP i x.2.2).2)) .fail
  | _ => .fail
theorem craC_ok : ObjOk Try.prog 28 craC := craE_ok.of_eval fun args h v hv => by
  unfold craC at hv
  split at hv
  · rename_i i
    obtain ⟨⟨m, n, l⟩, hd, hv⟩ := opt_eval hv
    have := dH_ok hd
    subst this
    obtain ⟨hc, hv⟩ := ite_some hv
    have hc : okN n l = true := hc
    obtain ⟨h1, h2⟩ := okN_is hc
    simp only [T.eval, Option.some.injEq] at hv
    subst hv
    cases hb : cB n i
    · have hb' : 0 ≤ i ∧ i < (n : Int) := by
        unfold cB at hb
        cases q : decide (i < 0)
        · rw [q] at hb; have := of_decide_eq_false q; have := of_decide_eq_false hb; omega
        · rw [q] at hb; cases hb
      obtain ⟨x1, x2⟩ := idR_is (g := l) (k := n) (i := i) h1 hb'.1 hb'.2
      refine (T.path_eval (wayC0 m i n l) ⟨hb, x1, x2, by rw [hc, decide_eq_true hb'.1, decide_eq_true hb'.2]; rfl, trivial⟩).trans ?_
      unfold craP
      rw [decide_eq_false (show ¬ i < 0 by omega), decide_eq_false (show ¬ (l.length : Int) ≤ i by omega)]
      simp only [Bool.or_false, cond_false, List.length_eraseIdx, if_pos (show i.toNat < l.length by omega)]
      rw [h1]
    · refine (T.path_eval (wayC1 m i n l) ⟨hb, trivial⟩).trans ?_
      unfold craP
      have : (decide (i < 0) || decide ((l.length : Int) ≤ i)) = true := by
        unfold cB at hb
        rw [← h1]
        cases q : decide (i < 0)
        · rw [q] at hb; rw [show decide ((n : Int) ≤ i) = true from hb]; rfl
        · rfl
      rw [this]
      simp only [cond_true]
      rw [h1]
  · cases hv
/-! ### dismiss -/
theorem wayD0 (m now : Int) (n : Nat) (l : List R4) : T.path [true, false] (disE [.ptr 0 0, iv now] (hL m n l)) = some ([(okN n l, true), ((spO l).isSome, false)], (.tup [], hL m n l)) := by kernel_rfl
def dS (l : List R4) (k : Nat) : List R4 := l.set (0 + Int.toNat k) ((g4 l k).1, 3, (g4 l k).2.2.1, (g4 l k).2.2.2)
theorem wayD1 (m now : Int) (n : Nat) (l : List R4) : T.path [true, true, true, true, true, true, true] (disE [.ptr 0 0, iv now] (hL m n l)) = some ([(okN n l, true), ((spO l).isSome, true), (idR l n (spJ l : Nat), true), (ldR l (spJ l : Nat), true), (decide (0 < (g4 l (spJ l : Nat)).2.2.1), true), (ldR l (spJ l : Nat), true), (ldR (dS l (spJ l)) (spJ l : Nat), true)],
    (.tup [], hL m n ((dS l (spJ l)).set (0 + Int.toNat (spJ l : Nat)) ((g4 (dS l (spJ l)) (spJ l : Nat)).1, (g4 (dS l (spJ l)) (spJ l : Nat)).2.1, (g4 (dS l (spJ l)) (spJ l : Nat)).2.2.1, now)))) := by kernel_rfl
theorem wayD2 (m now : Int) (n : Nat) (l : List R4) : T.path [true, true, true, true, false, true] (disE [.ptr 0 0, iv now] (hL m n l)) = some ([(okN n l, true), ((spO l).isSome, true), (idR l n (spJ l : Nat), true), (ldR l (spJ l : Nat), true), (decide (0 < (g4 l (spJ l : Nat)).2.2.1), false), (okN n l && (decide ((0 : Int) ≤ (spJ l : Nat)) && decide (((spJ l : Nat) : Int) < (n : Int))), true)], (.tup [], hL m (n - 1) (l.eraseIdx (Int.toNat (spJ l : Nat))))) := by kernel_rfl
def disC (args : List V) (h : Heap) : T (V × Heap) := match args with
  | [.ptr 0 0, .s (.int .i64 now)] => opt (dH h) fun x => .ite none (okN x.2.1 x.2.2) (.ret (.tup [], hL x.1 (disL now x.2.2).length (disL now x.2.2))) .fail
  | _ => .fail
theorem disC_ok : ObjOk Try.prog 73 disC := disE_ok.of_eval fun args h v hv => by
  unfold disC at hv
  split at hv
  · rename_i now
    obtain ⟨⟨m, n, l⟩, hd, hv⟩ := opt_eval hv
    have := dH_ok hd
    subst this
    obtain ⟨hc, hv⟩ := ite_some hv
    have hc : okN n l = true := hc
    obtain ⟨h1, h2⟩ := okN_is hc
    simp only [T.eval, Option.some.injEq] at hv
    subst hv
    cases ho : spO l with
    | none =>
      refine (T.path_eval (wayD0 m now n l) ⟨hc, by rw [ho]; rfl, trivial⟩).trans ?_
      unfold disL; simp only [ho]; rw [h1]
    | some r =>
      obtain ⟨j, q⟩ := r
      have hjq := (spO_some ho).1
      have hj := spO_lt ho
      have hsj : spJ l = j := by unfold spJ; rw [ho]; rfl
      have hgj : g4 l (j : Int) = q := by
        rw [g4_at (by omega)]; exact (List.getElem?_eq_some_iff.1 hjq).2
      obtain ⟨x1, x2⟩ := idR_is (g := l) (k := n) (i := (j : Int)) h1 (by omega) (by omega)
      have hdl : (dS l j).length = l.length := List.length_set
      have y2 : ldR (dS l j) (j : Int) = true := decide_eq_true (by rw [hdl]; omega)
      cases hb : decide (0 < q.2.2.1)
      · refine (T.path_eval (wayD2 m now n l) ⟨hc, by rw [ho]; rfl, by rw [hsj]; exact x1, by rw [hsj]; exact x2, by rw [hsj, hgj]; exact hb, by rw [hsj, hc, decide_eq_true (show (0 : Int) ≤ (j : Int) by omega), decide_eq_true (show (j : Int) < (n : Int) by omega)]; rfl, trivial⟩).trans ?_
        unfold disL; simp only [ho, hb, cond_false, hsj, Int.toNat_natCast, List.length_eraseIdx, if_pos hj]; rw [h1]
      · refine (T.path_eval (wayD1 m now n l) ⟨hc, by rw [ho]; rfl, by rw [hsj]; exact x1, by rw [hsj]; exact x2, by rw [hsj, hgj]; exact hb, by rw [hsj]; exact x2, by rw [hsj]; exact y2, trivial⟩).trans ?_
        have hd : g4 (dS l j) (j : Int) = (q.1, 3, q.2.2.1, q.2.2.2) := by
          rw [g4_at (by rw [hdl]; omega)]
          unfold dS
          simp [hgj]
        have he : (dS l j).set (0 + Int.toNat (j : Nat)) (q.1, 3, q.2.2.1, now) = l.set j (q.1, 3, q.2.2.1, now) := by
          unfold dS
          simp
        unfold disL
        simp only [ho, hb, cond_true, hsj, hd, List.length_set]
        rw [he, h1]
  · cases hv
noncomputable def J5 : Cfg := ⟨Try.prog, lookG [(30, .obj cntL), (73, .obj disC)], [], 0⟩
theorem J5_ok : J5.Ok := Cfg.ok ⟨cntL_ok, disC_ok, trivial⟩ trivial
noncomputable def lpSa : Code := loopAt Try.prog 25 0
structure PSa where (want : Int) (now : Int) (z : Int) (l0 : List R4) (m0 : Int)
structure ASa where (m : Int) (n : Nat) (l : List R4) (i : Int)
abbrev SSa : List (Nat × Src) := [(0, .same), (1000, .cell 0 1)]
def vsSa (p : PSa) (a : ASa) : List V := [.ptr 0 0, iv p.want, iv p.now, iv p.z, iv a.i]
def bsSa (p : PSa) (a : ASa) : List Blk := [.cells 108 [iv a.m, .sub 1000 4 0 a.n], .lst true 39 [.int .i64, .int .i64, .int .i64, .int .i64] a.l]
noncomputable def FSa (p : PSa) (a : ASa) : St := mkSt [0,1,2,26,27] (keysR SSa) 1001 62 (vsSa p a) (bsSa p a)
noncomputable def rdSa (p : PSa) (a : ASa) : T (Ex × St) := T.anon (roundN J5 noLoops lpSa [0,1,2,26,27] SSa 1000 1001 (mkSt [0,1,2,26,27] (keysR SSa) 1001 62 (vsSa p a) (bsSa p a)))
def decSa : List V → List Blk → Option (PSa × ASa)
  | [.ptr 0 0, .s (.int .i64 want), .s (.int .i64 now), .s (.int .i64 z), .s (.int .i64 i)], [.cells tt0 [.s (.int .i64 m), .sub 1000 4 0 n], .lst true tt1 [.int .i64, .int .i64, .int .i64, .int .i64] l] =>
    if tt0 = 108 then if tt1 = 39 then some (⟨want, now, z, l, m⟩, ⟨m, n, l, i⟩) else none else none
  | _, _ => none
theorem decSa_ok (l : List V) (b : List Blk) (d : PSa × ASa) (h : decSa l b = some d) : l = vsSa d.1 d.2 ∧ b = bsSa d.1 d.2 := by
  unfold decSa at h
  split at h
  · obtain ⟨e0, h⟩ := ite_some0 h
    obtain ⟨e1, h⟩ := ite_some0 h
    subst e0 e1
    cases h
    exact ⟨rfl, rfl⟩
  · cases h
noncomputable def rgSa : Nat := (firstReg lpSa).getD 0
theorem rgSa_is : firstReg lpSa = some rgSa := by kernel_rfl
noncomputable def lpSb : Code := loopAt Try.prog 25 1
structure PSb where (now : Int) (z : Int) (l0 : List R4)
structure ASb where (m : Int) (n : Nat) (l : List R4) (i : Int)
abbrev SSb : List (Nat × Src) := [(0, .same), (2000, .cell 0 1)]
def vsSb (p : PSb) (a : ASb) : List V := [.ptr 0 0, iv p.now, iv p.z, iv a.i]
def bsSb (p : PSb) (a : ASb) : List Blk := [.cells 108 [iv a.m, .sub 2000 4 0 a.n], .lst true 39 [.int .i64, .int .i64, .int .i64, .int .i64] a.l]
noncomputable def FSb (p : PSb) (a : ASb) : St := mkSt [0,2,55,56] (keysR SSb) 2001 62 (vsSb p a) (bsSb p a)
noncomputable def rdSb (p : PSb) (a : ASb) : T (Ex × St) := T.anon (roundN J5 noLoops lpSb [0,2,55,56] SSb 2000 2001 (mkSt [0,2,55,56] (keysR SSb) 2001 62 (vsSb p a) (bsSb p a)))
def decSb : List V → List Blk → Option (PSb × ASb)
  | [.ptr 0 0, .s (.int .i64 now), .s (.int .i64 z), .s (.int .i64 i)], [.cells tt0 [.s (.int .i64 m), .sub 2000 4 0 n], .lst true tt1 [.int .i64, .int .i64, .int .i64, .int .i64] l] =>
    if tt0 = 108 then if tt1 = 39 then some (⟨now, z, l⟩, ⟨m, n, l, i⟩) else none else none
  | _, _ => none
theorem decSb_ok (l : List V) (b : List Blk) (d : PSb × ASb) (h : decSb l b = some d) : l = vsSb d.1 d.2 ∧ b = bsSb d.1 d.2 := by
  unfold decSb at h
  split at h
  · obtain ⟨e0, h⟩ := ite_some0 h
    obtain ⟨e1, h⟩ := ite_some0 h
    subst e0 e1
    cases h
    exact ⟨rfl, rfl⟩
  · cases h
noncomputable def rgSb : Nat := (firstReg lpSb).getD 0
theorem rgSb_is : firstReg lpSb = some rgSb := by kernel_rfl
end Go.Proofs.Ytfnadebkobfemaa.Lif
