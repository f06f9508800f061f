import Derived.Test.YtndcealgackgiaaDoorHF
/- Layer 27: Ends: counts by states. -/
namespace Go.Proofs.YtndcealgackgiaaDoor.Rep
set_option linter.unusedSectionVars false
variable [Go.Eng.GW]
open Go.Eng Go.RowKit Go.Proofs.YtndcealgackgiaaDoor.Txt
set_option linter.unusedVariables false
set_option linter.unusedSimpArgs false
set_option maxRecDepth 100000
theorem eB : EOk Tryd.prog [arrK] := ⟨⟨by kernel_rfl, by kernel_rfl⟩, trivial⟩
noncomputable def E0 : Cfg := ⟨Tryd.prog, lookG [], [arrK], 0⟩
theorem E0_ok : E0.Ok := Cfg.ok trivial eB
abbrev Rq : Type := Int × Int × Int × Int
noncomputable def lpEn : Code := loopAt Tryd.prog 14 0
structure PEn where (n : Nat) (l : List Rq) (z : Int) (g : List Int)
structure AEn where (i : Int) (e : List Int)
abbrev SEn : List (Nat × Src) := [(0, .same), (1, .same), (9, .same)]
def vsEn (p : PEn) (a : AEn) : List V := [.pr 1 1 0 0, .pr 9 1 0 0, .sub 0 4 0 p.n, iv p.z, iv a.i]
def bsEn (p : PEn) (a : AEn) : List Blk := [.lst false 58 [.int .i64, .int .i64, .int .i64, .int .i64] p.l, .lst true 36 [.int .i64] p.g, .lst true 36 [.int .i64] a.e]
noncomputable def FEn (p : PEn) (a : AEn) : St := mkSt [2,3,6,7,8] (keysR SEn) 4000 28 (vsEn p a) (bsEn p a)
abbrev SEnx : List (Nat × Src) := [(0, .same), (1, .same), (9, .same)]
noncomputable def rdEn (p : PEn) (a : AEn) : T (Ex × St) := T.anon (roundX E0 noLoops lpEn [2,3,6,7,8] SEn [2,3] SEnx 4000 4000 (mkSt [2,3,6,7,8] (keysR SEn) 4000 28 (vsEn p a) (bsEn p a)))
def decEn_v0 : V → Option (Unit)
  | .pr 1 1 0 0 => some ()
  | _ => none
theorem decEn_v0_ok (b : V) (x0 : Unit) (h : decEn_v0 b = some x0) : b = .pr 1 1 0 0 := by
  unfold decEn_v0 at h
  split at h
  · cases h
    rfl
  · cases h
def decEn_v1 : V → Option (Unit)
  | .pr 9 1 0 0 => some ()
  | _ => none
theorem decEn_v1_ok (b : V) (x1 : Unit) (h : decEn_v1 b = some x1) : b = .pr 9 1 0 0 := by
  unfold decEn_v1 at h
  split at h
  · cases h
    rfl
  · cases h
def decEn_v2 : V → Option ((Nat))
  | .sub 0 4 0 n => some (n)
  | _ => none
theorem decEn_v2_ok (b : V) (x2 : (Nat)) (h : decEn_v2 b = some x2) : b = .sub 0 4 0 (x2) := by
  unfold decEn_v2 at h
  split at h
  · cases h
    rfl
  · cases h
def decEn_v3 : V → Option ((Int))
  | .s (.int .i64 z) => some (z)
  | _ => none
theorem decEn_v3_ok (b : V) (x3 : (Int)) (h : decEn_v3 b = some x3) : b = iv (x3) := by
  unfold decEn_v3 at h
  split at h
  · cases h
    rfl
  · cases h
def decEn_v4 : V → Option ((Int))
  | .s (.int .i64 i) => some (i)
  | _ => none
theorem decEn_v4_ok (b : V) (x4 : (Int)) (h : decEn_v4 b = some x4) : b = iv (x4) := by
  unfold decEn_v4 at h
  split at h
  · cases h
    rfl
  · cases h
def decEn_b0 : Blk → Option ((List Rq))
  | .lst false tt0 [.int .i64, .int .i64, .int .i64, .int .i64] l => if tt0 = 58 then some (l) else none
  | _ => none
theorem decEn_b0_ok (b : Blk) (y0 : (List Rq)) (h : decEn_b0 b = some y0) : b = .lst false 58 [.int .i64, .int .i64, .int .i64, .int .i64] (y0) := by
  unfold decEn_b0 at h
  split at h
  · obtain ⟨e0, h⟩ := ite_some0 h
    subst e0
    cases h
    rfl
  · cases h
def decEn_b1 : Blk → Option ((List Int))
  | .lst true tt0 [.int .i64] g => if tt0 = 36 then some (g) else none
  | _ => none
theorem decEn_b1_ok (b : Blk) (y1 : (List Int)) (h : decEn_b1 b = some y1) : b = .lst true 36 [.int .i64] (y1) := by
  unfold decEn_b1 at h
  split at h
  · obtain ⟨e0, h⟩ := ite_some0 h
    subst e0
    cases h
    rfl
  · cases h
def decEn_b2 : Blk → Option ((List Int))
  | .lst true tt0 [.int .i64] e => if tt0 = 36 then some (e) else none
  | _ => none
theorem decEn_b2_ok (b : Blk) (y2 : (List Int)) (h : decEn_b2 b = some y2) : b = .lst true 36 [.int .i64] (y2) := by
  unfold decEn_b2 at h
  split at h
  · obtain ⟨e0, h⟩ := ite_some0 h
    subst e0
    cases h
    rfl
  · cases h
def decEn : List V → List Blk → Option (PEn × AEn)
  | [v0, v1, v2, v3, v4], [b0, b1, b2] => (decEn_v0 v0).bind fun x0 => (decEn_v1 v1).bind fun x1 => (decEn_v2 v2).bind fun x2 => (decEn_v3 v3).bind fun x3 => (decEn_v4 v4).bind fun x4 => (decEn_b0 b0).bind fun y0 => (decEn_b1 b1).bind fun y1 => (decEn_b2 b2).bind fun y2 => some (⟨(x2), (y0), (x3), (y1)⟩, ⟨(x4), (y2)⟩)
  | _, _ => none
theorem decEn_ok (l : List V) (b : List Blk) (d : PEn × AEn) (h : decEn l b = some d) : l = vsEn d.1 d.2 ∧ b = bsEn d.1 d.2 := by
  unfold decEn at h
  split at h
  · obtain ⟨x0, hx0, h⟩ := Option.bind_eq_some_iff.1 h
    obtain ⟨x1, hx1, h⟩ := Option.bind_eq_some_iff.1 h
    obtain ⟨x2, hx2, h⟩ := Option.bind_eq_some_iff.1 h
    obtain ⟨x3, hx3, h⟩ := Option.bind_eq_some_iff.1 h
    obtain ⟨x4, hx4, h⟩ := Option.bind_eq_some_iff.1 h
    obtain ⟨y0, hy0, h⟩ := Option.bind_eq_some_iff.1 h
    obtain ⟨y1, hy1, h⟩ := Option.bind_eq_some_iff.1 h
    obtain ⟨y2, hy2, h⟩ := Option.bind_eq_some_iff.1 h
    have ex0 := decEn_v0_ok _ _ hx0
    have ex1 := decEn_v1_ok _ _ hx1
    have ex2 := decEn_v2_ok _ _ hx2
    have ex3 := decEn_v3_ok _ _ hx3
    have ex4 := decEn_v4_ok _ _ hx4
    have ey0 := decEn_b0_ok _ _ hy0
    have ey1 := decEn_b1_ok _ _ hy1
    have ey2 := decEn_b2_ok _ _ hy2
    cases h
    subst ex0 ex1 ex2 ex3 ex4 ey0 ey1 ey2
    exact ⟨rfl, rfl⟩
  · cases h
noncomputable def rgEn : Nat := (firstReg lpEn).getD 0
theorem rgEn_is : firstReg lpEn = some rgEn := by kernel_rfl
def sE (p : PEn) (a : AEn) : Int := (p.l.getD (0 + Int.toNat a.i) ((0, 0, 0, 0) : Rq)).2.2.1
def inE (s : Int) : Bool := bif decide (1 ≤ s) then decide (s ≤ 6) else false
def ixE (e : List Int) (s : Int) : Bool := decide (0 ≤ s) && (decide (s < ((7 : Nat) : Int)) && decide (s.toNat < e.length))
def hEn (p : PEn) (a : AEn) (b : Bool) : List (Bool × Bool) := [(decide (a.i < p.z), true), (idR p.l p.n a.i, true), (ldR p.l a.i, true), (inE (sE p a), b)]
def kEn (p : PEn) (a : AEn) : List (Bool × Bool) := [(ixE a.e (sE p a), true), (decide ((sE p a).toNat < a.e.length), true), (ixE a.e (sE p a), true), (decide ((sE p a).toNat < a.e.length), true)]
theorem en_y (p : PEn) (a : AEn) : T.path [true, true, true, true, true, true, true, true] (rdEn p a) = some (hEn p a true ++ kEn p a, (.normal, FEn p ⟨IntKind.wrap .i64 (a.i + 1), a.e.set (sE p a).toNat (IntKind.wrap .i64 (a.e.getD (sE p a).toNat 0 + 1))⟩)) := by kernel_rfl
theorem en_n (p : PEn) (a : AEn) : T.path [true, true, true, false] (rdEn p a) = some (hEn p a false, (.normal, FEn p ⟨IntKind.wrap .i64 (a.i + 1), a.e⟩)) := by kernel_rfl
def stEn (p : PEn) (a : AEn) : St := mkSt [2, 3] (keysR SEn) 4000 28 [.pr 1 1 0 0, .pr 9 1 0 0] (bsEn p a)
theorem en_x (p : PEn) (a : AEn) : T.path [false] (rdEn p a) = some ([(decide (a.i < p.z), false)], (.exit 0, stEn p a)) := by kernel_rfl
def cN (l : List Rq) (k : Nat) : Nat := l.countP fun x => inE x.2.2.1 && decide (x.2.2.1 = (k : Int))
def cntE (l : List Rq) : List Int := (List.range 7).map fun k => (cN l k : Int)
theorem cN_le (l : List Rq) (k : Nat) : cN l k ≤ l.length := List.countP_le_length
theorem cN_add (l : List Rq) (x : Rq) (k : Nat) : cN (l ++ [x]) k = cN l k + (if inE x.2.2.1 = true ∧ x.2.2.1 = (k : Int) then 1 else 0) := by
  unfold cN
  rw [List.countP_append, List.countP_singleton]
  simp
theorem cntE_no (l : List Rq) (x : Rq) (h : inE x.2.2.1 = false) : cntE (l ++ [x]) = cntE l := by
  unfold cntE
  refine List.map_congr_left fun k _ => ?_
  rw [cN_add, h]; simp
theorem cntE_at (l : List Rq) (k : Nat) (hk : k < 7) : (cntE l).getD k 0 = (cN l k : Int) := by
  unfold cntE
  rw [List.getD_eq_getElem?_getD, List.getElem?_map, List.getElem?_range hk]; rfl
theorem cntE_get (l : List Rq) (k : Nat) (h : k < (cntE l).length) : (cntE l)[k] = (cN l k : Int) := by
  simp only [cntE, List.getElem_map, List.getElem_range]
theorem inE_is {s : Int} (h : inE s = true) : 1 ≤ s ∧ s ≤ 6 := by
  unfold inE at h
  by_cases q : 1 ≤ s
  · rw [decide_eq_true q] at h
    exact ⟨q, of_decide_eq_true h⟩
  · rw [decide_eq_false q] at h; cases h
theorem cntE_yes (l : List Rq) (x : Rq) (h : inE x.2.2.1 = true) : (cntE l).set x.2.2.1.toNat ((cntE l).getD x.2.2.1.toNat 0 + 1) = cntE (l ++ [x]) := by
  obtain ⟨h1, h2⟩ := inE_is h
  rw [cntE_at _ _ (by omega)]
  refine List.ext_getElem (by unfold cntE; simp) fun k k1 k2 => ?_
  have hk : k < 7 := by unfold cntE at k2; simpa using k2
  rw [List.getElem_set]
  rw [cntE_get _ k k2, cN_add]
  by_cases q : x.2.2.1.toNat = k
  · rw [if_pos q, if_pos ⟨h, by omega⟩, q]; omega
  · rw [if_neg q, cntE_get, if_neg (fun e => q (by have := e.2; omega))]; omega
theorem cntE_len (l : List Rq) : (cntE l).length = 7 := by unfold cntE; simp
structure okEn (p : PEn) (a : AEn) : Prop where
  n : p.n = p.l.length
  z : p.z = (p.n : Int)
  n1 : p.n ≤ 1000000000
  i0 : 0 ≤ a.i
  i1 : a.i ≤ p.z
  e : a.e = cntE (p.l.take a.i.toNat)
def goEn (p : PEn) (a : AEn) : Bool := decide (a.i < p.z)
def muEn (p : PEn) (a : AEn) : Nat := (p.z - a.i).toNat
theorem stepEn (p : PEn) (a : AEn) (h : okEn p a) (hg : goEn p a = true) : ∃ b, stepC okEn rdEn FEn muEn p a b := by
  have hg : a.i < p.z := of_decide_eq_true hg
  obtain ⟨h1, h2, h3, h4, h5, h6⟩ := h
  have hl : a.i.toNat < p.l.length := by omega
  obtain ⟨y1, y2⟩ := idR_is (g := p.l) (k := p.n) (i := a.i) h1 h4 (by omega)
  have w : IntKind.wrap .i64 (a.i + 1) = a.i + 1 := wrap64_in (by omega) (by omega)
  have es : sE p a = (p.l[a.i.toNat]).2.2.1 := by
    unfold sE
    rw [List.getD_eq_getElem?_getD, Nat.zero_add, List.getElem?_eq_getElem hl]; rfl
  have ek : p.l.take (a.i + 1).toNat = p.l.take a.i.toNat ++ [p.l[a.i.toNat]] := by
    rw [show (a.i + 1).toNat = a.i.toNat + 1 by omega, List.take_add_one, List.getElem?_eq_getElem hl]; rfl
  have hd : ∀ b, inE (sE p a) = b → allSay (hEn p a b) := fun b hb => ⟨decide_eq_true hg, y1, y2, hb, trivial⟩
  have mu : ∀ e, muEn p ⟨a.i + 1, e⟩ < muEn p a := fun e => by show (p.z - (a.i + 1)).toNat < (p.z - a.i).toNat; omega
  cases hb : inE (sE p a) with
  | false =>
    have way := en_n p a
    rw [w] at way
    refine ⟨_, T.path_eval way (hd _ hb), ⟨h1, h2, h3, by show 0 ≤ a.i + 1; omega, by show a.i + 1 ≤ p.z; omega, ?_⟩, mu _⟩
    show a.e = cntE (p.l.take (a.i + 1).toNat)
    rw [ek, cntE_no _ _ (by rw [← es]; exact hb)]; exact h6
  | true =>
    obtain ⟨s1, s2⟩ := inE_is hb
    have way := en_y p a
    have el : a.e.length = 7 := by rw [h6]; exact cntE_len _
    have eg : a.e.getD (sE p a).toNat 0 = (cN (p.l.take a.i.toNat) (sE p a).toNat : Int) := by rw [h6]; exact cntE_at _ _ (by omega)
    have eb := cN_le (p.l.take a.i.toNat) (sE p a).toNat
    have et : (p.l.take a.i.toNat).length ≤ 1000000000 := by rw [List.length_take]; omega
    have w2 : IntKind.wrap .i64 (a.e.getD (sE p a).toNat 0 + 1) = a.e.getD (sE p a).toNat 0 + 1 := wrap64_in (by omega) (by omega)
    rw [w, w2] at way
    have c1 : ixE a.e (sE p a) = true := by
      unfold ixE
      rw [decide_eq_true (show 0 ≤ sE p a by omega), decide_eq_true (show sE p a < ((7 : Nat) : Int) by omega), decide_eq_true (show (sE p a).toNat < a.e.length by omega)]; rfl
    have c2 : decide ((sE p a).toNat < a.e.length) = true := decide_eq_true (by omega)
    refine ⟨_, T.path_eval way (allSay_append (hd _ hb) ⟨c1, c2, c1, c2, trivial⟩), ⟨h1, h2, h3, by show 0 ≤ a.i + 1; omega, by show a.i + 1 ≤ p.z; omega, ?_⟩, mu _⟩
    show a.e.set (sE p a).toNat (a.e.getD (sE p a).toNat 0 + 1) = cntE (p.l.take (a.i + 1).toNat)
    rw [ek, h6, es]
    exact cntE_yes _ _ (by rw [← es]; exact hb)
def outEn (p : PEn) (a : AEn) : T (Ex × St) := .ret (.exit 0, stEn p a)
theorem exEn (p : PEn) (a : AEn) (h : okEn p a) (hg : goEn p a = false) (r : Ex × St) (hr : (outEn p a).eval = some r) : r.1 ≠ .normal ∧ (rdEn p a).eval = some r := by
  obtain rfl := Option.some.inj hr
  exact ⟨by simp, T.path_eval (en_x p a) ⟨hg, trivial⟩⟩
noncomputable def famEn : LSpec := famE [2,3,6,7,8] SEn SEnx 4000 4000 28 decEn okEn goEn rdEn FEn muEn outEn
theorem lpEn_ok : LoopOk E0 lpEn famEn := famE_ok (vs := vsEn) (bs := bsEn) E0_ok mixed (noLoops_ok _) decEn_ok (fun _ _ => rfl) (fun _ _ => rfl) stepEn exEn
noncomputable def enX : Eng.Spec := execS E0 (byReg [(rgEn, famEn)]) 14
theorem enX_ok : SpecOk Tryd.prog 14 enX := execS_loops E0_ok mixed Tryd.func14 (by kernel_rfl) (by kernel_rfl) (one_lp (c := lpEn) (by kernel_rfl) rgEn_is lpEn_ok)
def arrI (g : List Int) : V := .agg [iv (g.getD 0 0), iv (g.getD 1 0), iv (g.getD 2 0), iv (g.getD 3 0), iv (g.getD 4 0), iv (g.getD 5 0), iv (g.getD 6 0)]
def pE (l : List Rq) : PEn := ⟨l.length, l, (l.length : Int), [0, 0, 0, 0, 0, 0, 0]⟩
def aE : AEn := ⟨0, [0, 0, 0, 0, 0, 0, 0]⟩
noncomputable def eE (l : List Rq) : AEn := endW (nxtC okEn goEn rdEn FEn muEn (pE l)) aE
def rowE (l : List Rq) : V := .orow 58 [.int .i64, .int .i64, .int .i64, .int .i64] l
theorem en_way (l : List Rq) : T.path [true, true, true, true] (T.anon (enX [rowE l])) = some ([(invC okEn (pE l) aE, true), (decide (7 ≤ (eE l).e.length), true), (true, true), (true, true)], arrI (eE l).e) := by kernel_rfl
theorem en_run {l : List Rq} (h : l.length ≤ 1000000000) : (enX [rowE l]).eval = some (arrI (cntE l)) := by
  rw [← T.eval_anon (t := enX _)]
  have h0 : okEn (pE l) aE := ⟨rfl, rfl, h, Int.le_refl _, Int.natCast_nonneg _, rfl⟩
  obtain ⟨k1, k2⟩ := endC stepEn h0
  have k1 : okEn (pE l) (eE l) := k1
  have k2 : goEn (pE l) (eE l) = false := k2
  obtain ⟨-, z, -, i0, i1, e⟩ := k1
  have z : (pE l).z = (l.length : Int) := z
  have hi : ¬ (eE l).i < (pE l).z := of_decide_eq_false k2
  have ee : (eE l).e = cntE l := by
    rw [e, List.take_of_length_le (by show l.length ≤ _; omega)]; rfl
  have way := en_way l
  have hlen : decide (7 ≤ (eE l).e.length) = true := by rw [ee, cntE_len]; rfl
  rw [ee] at way hlen
  exact T.path_eval way ⟨invC_is h0, hlen, rfl, rfl, trivial⟩
def endsS : Eng.Spec
  | [.orow t [.int .i64, .int .i64, .int .i64, .int .i64] l] => if t = 58 then .ite none (decide (List.length l ≤ 1000000000)) (.ret (arrI (cntE l))) .fail else .fail
  | _ => .fail
theorem endsS_ok : SpecOk Tryd.prog 14 endsS := enX_ok.of_den fun args v hfl h => by
  clear hfl
  unfold endsS at h
  split at h
  · rename_i t l
    split at h
    · rename_i ht
      subst ht
      obtain ⟨hb, h2⟩ := ite_T' h
      obtain rfl := Option.some.inj h2
      exact ⟨_, en_run (of_decide_eq_true hb), ⟨rfl, rfl⟩, rfl⟩
    · cases h
  · cases h
end Go.Proofs.YtndcealgackgiaaDoor.Rep

/- Layer 27: Sum over any views; few. -/
namespace Go.Proofs.YtndcealgackgiaaDoor.Rep
set_option linter.unusedSectionVars false
variable [Go.Eng.GW]
open Go.Eng Go.RowKit Go.Proofs.YtndcealgackgiaaDoor.Txt
set_option linter.unusedVariables false
set_option linter.unusedSimpArgs false
set_option maxRecDepth 100000
noncomputable def H0 : Cfg := ⟨Tryd.prog, lookG [], [], 0⟩
theorem H0_ok : H0.Ok := Cfg.ok trivial trivial
abbrev Vw : Type := Int × Int × Bool × Bool × (Option Addr × Nat × Nat) × Int × Int × Int × Int × Int × Int × Int × Int × Int × Bool
abbrev KV : List K := [.int .i64, .int .i64, .bool, .bool, .sl, .int .i64, .int .i64, .int .i64, .int .i64, .int .i64, .int .i64, .int .i64, .int .i64, .int .i64, .bool]
noncomputable def lpSu : Code := loopAt Tryd.prog 12 0
structure PSu where (n : Nat) (l : List Vw) (z : Int)
structure ASu where (w : Int) (d : Int) (c : Int) (x : Int) (i : Int)
abbrev SSu : List (Nat × Src) := [(0, .same)]
def vsSu (p : PSu) (a : ASu) : List V := [iv a.w, iv a.d, iv a.c, iv a.x, .sub 0 15 0 p.n, iv p.z, iv a.i]
def bsSu (p : PSu) (a : ASu) : List Blk := [.lst false 38 [.int .i64, .int .i64, .bool, .bool, .sl, .int .i64, .int .i64, .int .i64, .int .i64, .int .i64, .int .i64, .int .i64, .int .i64, .int .i64, .bool] p.l]
noncomputable def FSu (p : PSu) (a : ASu) : St := mkSt [6,7,8,9,12,13,14] (keysR SSu) 4000 40 (vsSu p a) (bsSu p a)
abbrev SSux : List (Nat × Src) := [(0, .same)]
noncomputable def rdSu (p : PSu) (a : ASu) : T (Ex × St) := T.anon (roundX H0 noLoops lpSu [6,7,8,9,12,13,14] SSu [6,7,8,9] SSux 4000 4000 (mkSt [6,7,8,9,12,13,14] (keysR SSu) 4000 40 (vsSu p a) (bsSu p a)))
def decSu_v0 : V → Option ((Int))
  | .s (.int .i64 w) => some (w)
  | _ => none
theorem decSu_v0_ok (b : V) (x0 : (Int)) (h : decSu_v0 b = some x0) : b = iv (x0) := by
  unfold decSu_v0 at h
  split at h
  · cases h
    rfl
  · cases h
def decSu_v1 : V → Option ((Int))
  | .s (.int .i64 d) => some (d)
  | _ => none
theorem decSu_v1_ok (b : V) (x1 : (Int)) (h : decSu_v1 b = some x1) : b = iv (x1) := by
  unfold decSu_v1 at h
  split at h
  · cases h
    rfl
  · cases h
def decSu_v2 : V → Option ((Int))
  | .s (.int .i64 c) => some (c)
  | _ => none
theorem decSu_v2_ok (b : V) (x2 : (Int)) (h : decSu_v2 b = some x2) : b = iv (x2) := by
  unfold decSu_v2 at h
  split at h
  · cases h
    rfl
  · cases h
def decSu_v3 : V → Option ((Int))
  | .s (.int .i64 x) => some (x)
  | _ => none
theorem decSu_v3_ok (b : V) (x3 : (Int)) (h : decSu_v3 b = some x3) : b = iv (x3) := by
  unfold decSu_v3 at h
  split at h
  · cases h
    rfl
  · cases h
def decSu_v4 : V → Option ((Nat))
  | .sub 0 15 0 n => some (n)
  | _ => none
theorem decSu_v4_ok (b : V) (x4 : (Nat)) (h : decSu_v4 b = some x4) : b = .sub 0 15 0 (x4) := by
  unfold decSu_v4 at h
  split at h
  · cases h
    rfl
  · cases h
def decSu_v5 : V → Option ((Int))
  | .s (.int .i64 z) => some (z)
  | _ => none
theorem decSu_v5_ok (b : V) (x5 : (Int)) (h : decSu_v5 b = some x5) : b = iv (x5) := by
  unfold decSu_v5 at h
  split at h
  · cases h
    rfl
  · cases h
def decSu_v6 : V → Option ((Int))
  | .s (.int .i64 i) => some (i)
  | _ => none
theorem decSu_v6_ok (b : V) (x6 : (Int)) (h : decSu_v6 b = some x6) : b = iv (x6) := by
  unfold decSu_v6 at h
  split at h
  · cases h
    rfl
  · cases h
def decSu_b0 (b : Blk) : Option ((List Vw)) := rowsOf false 38 [.int .i64, .int .i64, .bool, .bool, .sl, .int .i64, .int .i64, .int .i64, .int .i64, .int .i64, .int .i64, .int .i64, .int .i64, .int .i64, .bool] b
theorem decSu_b0_ok (b : Blk) (y0 : (List Vw)) (h : decSu_b0 b = some y0) : b = .lst false 38 [.int .i64, .int .i64, .bool, .bool, .sl, .int .i64, .int .i64, .int .i64, .int .i64, .int .i64, .int .i64, .int .i64, .int .i64, .int .i64, .bool] (y0) := rowsOf_ok h
def decSu : List V → List Blk → Option (PSu × ASu)
  | [v0, v1, v2, v3, v4, v5, v6], [b0] => (decSu_v0 v0).bind fun x0 => (decSu_v1 v1).bind fun x1 => (decSu_v2 v2).bind fun x2 => (decSu_v3 v3).bind fun x3 => (decSu_v4 v4).bind fun x4 => (decSu_v5 v5).bind fun x5 => (decSu_v6 v6).bind fun x6 => (decSu_b0 b0).bind fun y0 => some (⟨(x4), (y0), (x5)⟩, ⟨(x0), (x1), (x2), (x3), (x6)⟩)
  | _, _ => none
theorem decSu_ok (l : List V) (b : List Blk) (d : PSu × ASu) (h : decSu l b = some d) : l = vsSu d.1 d.2 ∧ b = bsSu d.1 d.2 := by
  unfold decSu at h
  split at h
  · obtain ⟨x0, hx0, h⟩ := Option.bind_eq_some_iff.1 h
    obtain ⟨x1, hx1, h⟩ := Option.bind_eq_some_iff.1 h
    obtain ⟨x2, hx2, h⟩ := Option.bind_eq_some_iff.1 h
    obtain ⟨x3, hx3, h⟩ := Option.bind_eq_some_iff.1 h
    obtain ⟨x4, hx4, h⟩ := Option.bind_eq_some_iff.1 h
    obtain ⟨x5, hx5, h⟩ := Option.bind_eq_some_iff.1 h
    obtain ⟨x6, hx6, h⟩ := Option.bind_eq_some_iff.1 h
    obtain ⟨y0, hy0, h⟩ := Option.bind_eq_some_iff.1 h
    have ex0 := decSu_v0_ok _ _ hx0
    have ex1 := decSu_v1_ok _ _ hx1
    have ex2 := decSu_v2_ok _ _ hx2
    have ex3 := decSu_v3_ok _ _ hx3
    have ex4 := decSu_v4_ok _ _ hx4
    have ex5 := decSu_v5_ok _ _ hx5
    have ex6 := decSu_v6_ok _ _ hx6
    have ey0 := decSu_b0_ok _ _ hy0
    cases h
    subst ex0 ex1 ex2 ex3 ex4 ex5 ex6 ey0
    exact ⟨rfl, rfl⟩
  · cases h
noncomputable def rgSu : Nat := (firstReg lpSu).getD 0
theorem rgSu_is : firstReg lpSu = some rgSu := by kernel_rfl
noncomputable def lpFw : Code := loopAt Tryd.prog 8 0
structure PFw where (n : Nat) (l : List Vw) (z : Int)
structure AFw where (i : Int)
abbrev SFw : List (Nat × Src) := [(0, .same)]
def vsFw (p : PFw) (a : AFw) : List V := [.sub 0 15 0 p.n, iv p.z, iv a.i]
def bsFw (p : PFw) (a : AFw) : List Blk := [.lst false 38 [.int .i64, .int .i64, .bool, .bool, .sl, .int .i64, .int .i64, .int .i64, .int .i64, .int .i64, .int .i64, .int .i64, .int .i64, .int .i64, .bool] p.l]
noncomputable def FFw (p : PFw) (a : AFw) : St := mkSt [0,1,5] (keysR SFw) 4000 23 (vsFw p a) (bsFw p a)
abbrev SFwx : List (Nat × Src) := [(0, .same)]
noncomputable def rdFw (p : PFw) (a : AFw) : T (Ex × St) := T.anon (roundX H0 noLoops lpFw [0,1,5] SFw [0,1,4] SFwx 4000 4000 (mkSt [0,1,5] (keysR SFw) 4000 23 (vsFw p a) (bsFw p a)))
def decFw_v0 : V → Option ((Nat))
  | .sub 0 15 0 n => some (n)
  | _ => none
theorem decFw_v0_ok (b : V) (x0 : (Nat)) (h : decFw_v0 b = some x0) : b = .sub 0 15 0 (x0) := by
  unfold decFw_v0 at h
  split at h
  · cases h
    rfl
  · cases h
def decFw_v1 : V → Option ((Int))
  | .s (.int .i64 z) => some (z)
  | _ => none
theorem decFw_v1_ok (b : V) (x1 : (Int)) (h : decFw_v1 b = some x1) : b = iv (x1) := by
  unfold decFw_v1 at h
  split at h
  · cases h
    rfl
  · cases h
def decFw_v2 : V → Option ((Int))
  | .s (.int .i64 i) => some (i)
  | _ => none
theorem decFw_v2_ok (b : V) (x2 : (Int)) (h : decFw_v2 b = some x2) : b = iv (x2) := by
  unfold decFw_v2 at h
  split at h
  · cases h
    rfl
  · cases h
def decFw_b0 (b : Blk) : Option ((List Vw)) := rowsOf false 38 [.int .i64, .int .i64, .bool, .bool, .sl, .int .i64, .int .i64, .int .i64, .int .i64, .int .i64, .int .i64, .int .i64, .int .i64, .int .i64, .bool] b
theorem decFw_b0_ok (b : Blk) (y0 : (List Vw)) (h : decFw_b0 b = some y0) : b = .lst false 38 [.int .i64, .int .i64, .bool, .bool, .sl, .int .i64, .int .i64, .int .i64, .int .i64, .int .i64, .int .i64, .int .i64, .int .i64, .int .i64, .bool] (y0) := rowsOf_ok h
def decFw : List V → List Blk → Option (PFw × AFw)
  | [v0, v1, v2], [b0] => (decFw_v0 v0).bind fun x0 => (decFw_v1 v1).bind fun x1 => (decFw_v2 v2).bind fun x2 => (decFw_b0 b0).bind fun y0 => some (⟨(x0), (y0), (x1)⟩, ⟨(x2)⟩)
  | _, _ => none
theorem decFw_ok (l : List V) (b : List Blk) (d : PFw × AFw) (h : decFw l b = some d) : l = vsFw d.1 d.2 ∧ b = bsFw d.1 d.2 := by
  unfold decFw at h
  split at h
  · obtain ⟨x0, hx0, h⟩ := Option.bind_eq_some_iff.1 h
    obtain ⟨x1, hx1, h⟩ := Option.bind_eq_some_iff.1 h
    obtain ⟨x2, hx2, h⟩ := Option.bind_eq_some_iff.1 h
    obtain ⟨y0, hy0, h⟩ := Option.bind_eq_some_iff.1 h
    have ex0 := decFw_v0_ok _ _ hx0
    have ex1 := decFw_v1_ok _ _ hx1
    have ex2 := decFw_v2_ok _ _ hx2
    have ey0 := decFw_b0_ok _ _ hy0
    cases h
    subst ex0 ex1 ex2 ey0
    exact ⟨rfl, rfl⟩
  · cases h
noncomputable def rgFw : Nat := (firstReg lpFw).getD 0
theorem rgFw_is : firstReg lpFw = some rgFw := by kernel_rfl
end Go.Proofs.YtndcealgackgiaaDoor.Rep

/- Layer 27: Sum over any views; few: contracts. -/
namespace Go.Proofs.YtndcealgackgiaaDoor.Rep
set_option linter.unusedSectionVars false
variable [Go.Eng.GW]
open Go.Eng Go.RowKit Go.Proofs.YtndcealgackgiaaDoor.Txt
set_option linter.unusedVariables false
set_option linter.unusedSimpArgs false
set_option maxRecDepth 100000
def vD : Vw := (0, 0, false, false, (none, 0, 0), 0, 0, 0, 0, 0, 0, 0, 0, 0, false)
def vA (l : List Vw) (i : Int) : Vw := l.getD (0 + i.toNat) vD
def wOf (v : Vw) : Int := v.2.1
def dOf (v : Vw) : Int := (v.2.2.2.2.1.2.1 : Int)
def pnOf (v : Vw) : Bool := v.2.2.1
def pxOf (v : Vw) : Bool := v.2.2.2.1
def mx (a b : Int) : Int := if b > a then b else a
def up (b : Bool) (c : Int) : Int := bif b then IntKind.wrap .i64 (c + 1) else c
def hSu (p : PSu) (a : ASu) (b1 b2 : Bool) : List (Bool × Bool) := [(decide (a.i < p.z), true), (idR p.l p.n a.i, true), (ldR p.l a.i, true), (pnOf (vA p.l a.i), b1), (pxOf (vA p.l a.i), b2)]
theorem su_w (p : PSu) (a : ASu) (b1 b2 : Bool) : T.path [true, true, true, b1, b2] (rdSu p a) = some (hSu p a b1 b2, (.normal, FSu p ⟨mx a.w (wOf (vA p.l a.i)), mx a.d (dOf (vA p.l a.i)), up b1 a.c, up b2 a.x, IntKind.wrap .i64 (a.i + 1)⟩)) := by
  cases b1 <;> cases b2 <;> kernel_rfl
def stSu (p : PSu) (a : ASu) : St := mkSt [6, 7, 8, 9] (keysR SSu) 4000 40 [iv a.w, iv a.d, iv a.c, iv a.x] (bsSu p a)
theorem su_x (p : PSu) (a : ASu) : T.path [false] (rdSu p a) = some ([(decide (a.i < p.z), false)], (.exit 0, stSu p a)) := by kernel_rfl
def suW (l : List Vw) : Int := l.foldl (fun w v => mx w (wOf v)) 0
def suD (l : List Vw) : Int := l.foldl (fun w v => mx w (dOf v)) 0
def suC (l : List Vw) : Nat := l.countP pnOf
def suX (l : List Vw) : Nat := l.countP pxOf
structure okSu (p : PSu) (a : ASu) : Prop where
  n : p.n = p.l.length
  z : p.z = (p.n : Int)
  n1 : p.n ≤ 1000000000
  i0 : 0 ≤ a.i
  i1 : a.i ≤ p.z
  w : a.w = suW (p.l.take a.i.toNat)
  d : a.d = suD (p.l.take a.i.toNat)
  c : a.c = (suC (p.l.take a.i.toNat) : Int)
  x : a.x = (suX (p.l.take a.i.toNat) : Int)
def goSu (p : PSu) (a : ASu) : Bool := decide (a.i < p.z)
def muSu (p : PSu) (a : ASu) : Nat := (p.z - a.i).toNat
theorem cnt_up (f : Vw → Bool) (l : List Vw) (v : Vw) (hl : l.length ≤ 1000000000) : up (f v) (l.countP f : Int) = ((l ++ [v]).countP f : Int) := by
  have h := List.countP_le_length (p := f) (l := l)
  rw [List.countP_append, List.countP_singleton]
  unfold up
  cases f v with
  | false => simp
  | true =>
    show IntKind.wrap .i64 _ = _
    rw [wrap64_in (by omega) (by omega)]; simp
theorem stepSu (p : PSu) (a : ASu) (h : okSu p a) (hg : goSu p a = true) : ∃ b, stepC okSu rdSu FSu muSu p a b := by
  have hg : a.i < p.z := of_decide_eq_true hg
  obtain ⟨h1, h2, h3, h4, h5, h6, h7, h8, h9⟩ := h
  have hl : a.i.toNat < p.l.length := by omega
  obtain ⟨y1, y2⟩ := idR_is (g := p.l) (k := p.n) (i := a.i) h1 h4 (by omega)
  have w : IntKind.wrap .i64 (a.i + 1) = a.i + 1 := wrap64_in (by omega) (by omega)
  have ev : vA p.l a.i = p.l[a.i.toNat] := by
    unfold vA
    rw [List.getD_eq_getElem?_getD, Nat.zero_add, List.getElem?_eq_getElem hl]; rfl
  have ek : p.l.take (a.i + 1).toNat = p.l.take a.i.toNat ++ [vA p.l a.i] := by
    rw [ev, show (a.i + 1).toNat = a.i.toNat + 1 by omega, List.take_add_one, List.getElem?_eq_getElem hl]; rfl
  have et : (p.l.take a.i.toNat).length ≤ 1000000000 := by rw [List.length_take]; omega
  have way := su_w p a (pnOf (vA p.l a.i)) (pxOf (vA p.l a.i))
  rw [w] at way
  refine ⟨_, T.path_eval way ⟨decide_eq_true hg, y1, y2, rfl, rfl, trivial⟩, ⟨h1, h2, h3, by show 0 ≤ a.i + 1; omega, by show a.i + 1 ≤ p.z; omega, ?_, ?_, ?_, ?_⟩, by show (p.z - (a.i + 1)).toNat < (p.z - a.i).toNat; omega⟩
  · show mx a.w (wOf (vA p.l a.i)) = suW (p.l.take (a.i + 1).toNat)
    rw [ek, h6]; unfold suW; rw [List.foldl_append]; rfl
  · show mx a.d (dOf (vA p.l a.i)) = suD (p.l.take (a.i + 1).toNat)
    rw [ek, h7]; unfold suD; rw [List.foldl_append]; rfl
  · show up (pnOf (vA p.l a.i)) a.c = (suC (p.l.take (a.i + 1).toNat) : Int)
    rw [ek, h8]; exact cnt_up pnOf _ _ et
  · show up (pxOf (vA p.l a.i)) a.x = (suX (p.l.take (a.i + 1).toNat) : Int)
    rw [ek, h9]; exact cnt_up pxOf _ _ et
def outSu (p : PSu) (a : ASu) : T (Ex × St) := .ret (.exit 0, stSu p a)
theorem exSu (p : PSu) (a : ASu) (h : okSu p a) (hg : goSu p a = false) (r : Ex × St) (hr : (outSu p a).eval = some r) : r.1 ≠ .normal ∧ (rdSu p a).eval = some r := by
  obtain rfl := Option.some.inj hr
  exact ⟨by simp, T.path_eval (su_x p a) ⟨hg, trivial⟩⟩
noncomputable def famSu : LSpec := famE [6,7,8,9,12,13,14] SSu SSux 4000 4000 40 decSu okSu goSu rdSu FSu muSu outSu
theorem lpSu_ok : LoopOk H0 lpSu famSu := famE_ok (vs := vsSu) (bs := bsSu) H0_ok mixed (noLoops_ok _) decSu_ok (fun _ _ => rfl) (fun _ _ => rfl) stepSu exSu
noncomputable def suX0 : Eng.Spec := execS H0 (byReg [(rgSu, famSu)]) 12
theorem suX0_ok : SpecOk Tryd.prog 12 suX0 := execS_loops H0_ok mixed Tryd.func12 (by kernel_rfl) (by kernel_rfl) (one_lp (c := lpSu) (by kernel_rfl) rgSu_is lpSu_ok)
def rowV (l : List Vw) : V := .orow 38 KV l
def pS (l : List Vw) : PSu := ⟨l.length, l, (l.length : Int)⟩
def aS : ASu := ⟨0, 0, 0, 0, 0⟩
noncomputable def eS (l : List Vw) : ASu := endW (nxtC okSu goSu rdSu FSu muSu (pS l)) aS
theorem su_way (l : List Vw) : T.path [true] (T.anon (suX0 [rowV l])) = some ([(invC okSu (pS l) aS, true)], .tup [iv (eS l).w, iv (eS l).d, iv (eS l).c, iv (eS l).x]) := by kernel_rfl
def sumV (l : List Vw) : V := .tup [iv (suW l), iv (suD l), iv (suC l), iv (suX l)]
theorem su_run {l : List Vw} (h : l.length ≤ 1000000000) : (suX0 [rowV l]).eval = some (sumV l) := by
  rw [← T.eval_anon (t := suX0 _)]
  have h0 : okSu (pS l) aS := ⟨rfl, rfl, h, Int.le_refl _, Int.natCast_nonneg _, rfl, rfl, rfl, rfl⟩
  obtain ⟨k1, k2⟩ := endC stepSu h0
  have k1 : okSu (pS l) (eS l) := k1
  have k2 : goSu (pS l) (eS l) = false := k2
  obtain ⟨-, z, -, i0, i1, w, d, c, x⟩ := k1
  have z : (pS l).z = (l.length : Int) := z
  have hi : ¬ (eS l).i < (pS l).z := of_decide_eq_false k2
  have et : List.take (eS l).i.toNat (pS l).l = l := List.take_of_length_le (by show l.length ≤ _; omega)
  rw [et] at w d c x
  have way := su_way l
  rw [w, d, c, x] at way
  exact T.path_eval way ⟨invC_is h0, trivial⟩
def sumS : Eng.Spec
  | [.orow t [.int .i64, .int .i64, .bool, .bool, .sl, .int .i64, .int .i64, .int .i64, .int .i64, .int .i64, .int .i64, .int .i64, .int .i64, .int .i64, .bool] l] => if t = 38 then .ite none (decide (List.length l ≤ 1000000000)) (.ret (sumV l)) .fail else .fail
  | _ => .fail
theorem sumS_ok : SpecOk Tryd.prog 12 sumS := suX0_ok.of_den fun args v hfl h => by
  clear hfl
  unfold sumS at h
  split at h
  · rename_i t l
    split at h
    · rename_i ht
      subst ht
      obtain ⟨hb, h2⟩ := ite_T' h
      obtain rfl := Option.some.inj h2
      exact ⟨_, su_run (of_decide_eq_true hb), ⟨rfl, rfl⟩, rfl⟩
    · cases h
  · cases h
end Go.Proofs.YtndcealgackgiaaDoor.Rep

/- Layer 27: few: its contract; ReportSums as a tree. -/
namespace Go.Proofs.YtndcealgackgiaaDoor.Rep
set_option linter.unusedSectionVars false
variable [Go.Eng.GW]
open Go.Eng Go.RowKit Go.Proofs.YtndcealgackgiaaDoor.Txt
set_option linter.unusedVariables false
set_option linter.unusedSimpArgs false
set_option maxRecDepth 100000
def hFw (p : PFw) (a : AFw) (b : Bool) : List (Bool × Bool) := [(decide (a.i < (p.n : Int)), true), (idR p.l p.n a.i, true), (ldR p.l a.i, true), (decide (40 < dOf (vA p.l a.i)), b)]
def stFw (p : PFw) (a : AFw) (v : V) : St := mkSt [0, 1, 4] (keysR SFw) 4000 23 [.sub 0 15 0 p.n, iv p.z, v] (bsFw p a)
theorem fw_n (p : PFw) (a : AFw) : T.path [true, true, true, false] (rdFw p a) = some (hFw p a false, (.normal, FFw p ⟨IntKind.wrap .i64 (a.i + 1)⟩)) := by kernel_rfl
theorem fw_r (p : PFw) (a : AFw) : T.path [true, true, true, true] (rdFw p a) = some (hFw p a true, (.ret, stFw p a (.s (.bool false)))) := by kernel_rfl
theorem fw_x (p : PFw) (a : AFw) : T.path [false] (rdFw p a) = some ([(decide (a.i < (p.n : Int)), false)], (.exit 0, stFw p a .junk)) := by kernel_rfl
structure okFw (p : PFw) (a : AFw) : Prop where
  n : p.n = p.l.length
  n1 : p.n ≤ 9223372036854775807
  i0 : 0 ≤ a.i
  i1 : a.i ≤ (p.n : Int)
  g : ∀ v ∈ p.l.take a.i.toNat, ¬ 40 < dOf v
def goFw (p : PFw) (a : AFw) : Bool := decide (a.i < (p.n : Int)) && !decide (40 < dOf (vA p.l a.i))
def muFw (p : PFw) (a : AFw) : Nat := ((p.n : Int) - a.i).toNat
theorem hFw_say {p : PFw} {a : AFw} (h : okFw p a) (hi : a.i < (p.n : Int)) {b : Bool} (hb : decide (40 < dOf (vA p.l a.i)) = b) : allSay (hFw p a b) := by
  obtain ⟨y1, y2⟩ := idR_is (g := p.l) (k := p.n) (i := a.i) h.n h.i0 (by omega)
  exact ⟨decide_eq_true hi, y1, y2, hb, trivial⟩
theorem vA_at {l : List Vw} {i : Int} (hl : i.toNat < l.length) : vA l i = l[i.toNat] := by
  unfold vA
  rw [List.getD_eq_getElem?_getD, Nat.zero_add, List.getElem?_eq_getElem hl]; rfl
theorem stepFw (p : PFw) (a : AFw) (h : okFw p a) (hg : goFw p a = true) : ∃ b, stepC okFw rdFw FFw muFw p a b := by
  unfold goFw at hg
  rw [Bool.and_eq_true, decide_eq_true_eq, Bool.not_eq_true'] at hg
  obtain ⟨hi, hb⟩ := hg
  have hs := hFw_say h hi hb
  obtain ⟨h1, h2, h3, h4, h5⟩ := h
  have hl : a.i.toNat < p.l.length := by omega
  have w : IntKind.wrap .i64 (a.i + 1) = a.i + 1 := wrap64_in (by omega) (by omega)
  have way := fw_n p a
  rw [w] at way
  refine ⟨_, T.path_eval way hs, ⟨h1, h2, by show 0 ≤ a.i + 1; omega, by show a.i + 1 ≤ _; omega, ?_⟩, by show ((p.n : Int) - (a.i + 1)).toNat < ((p.n : Int) - a.i).toNat; omega⟩
  intro v hv
  have hv : v ∈ p.l.take (a.i + 1).toNat := hv
  rw [show (a.i + 1).toNat = a.i.toNat + 1 by omega, List.take_add_one, List.getElem?_eq_getElem hl] at hv
  rcases List.mem_append.1 hv with q | q
  · exact h5 v q
  · have q : v = p.l[a.i.toNat] := by simpa using q
    rw [q, ← vA_at hl]
    exact of_decide_eq_false hb
def outFw (p : PFw) (a : AFw) : T (Ex × St) := .ite none (decide (a.i < (p.n : Int))) (.ret (.ret, stFw p a (.s (.bool false)))) (.ret (.exit 0, stFw p a .junk))
theorem fw_bad {p : PFw} {a : AFw} (hg : goFw p a = false) (hi : a.i < (p.n : Int)) : decide (40 < dOf (vA p.l a.i)) = true := by
  unfold goFw at hg
  rw [decide_eq_true hi, Bool.true_and, Bool.not_eq_false'] at hg
  exact hg
theorem exFw (p : PFw) (a : AFw) (h : okFw p a) (hg : goFw p a = false) (r : Ex × St) (hr : (outFw p a).eval = some r) : r.1 ≠ .normal ∧ (rdFw p a).eval = some r := by
  unfold outFw at hr
  by_cases hi : a.i < (p.n : Int)
  · rw [decide_eq_true hi] at hr
    obtain rfl := Option.some.inj hr
    exact ⟨by simp, T.path_eval (fw_r p a) (hFw_say h hi (fw_bad hg hi))⟩
  · rw [decide_eq_false hi] at hr
    obtain rfl := Option.some.inj hr
    exact ⟨by simp, T.path_eval (fw_x p a) ⟨decide_eq_false hi, trivial⟩⟩
noncomputable def famFw : LSpec := famE [0,1,5] SFw SFwx 4000 4000 23 decFw okFw goFw rdFw FFw muFw outFw
theorem lpFw_ok : LoopOk H0 lpFw famFw := famE_ok (vs := vsFw) (bs := bsFw) H0_ok mixed (noLoops_ok _) decFw_ok (fun _ _ => rfl) (fun _ _ => rfl) stepFw exFw
noncomputable def fwX : Eng.Spec := execS H0 (byReg [(rgFw, famFw)]) 8
theorem fwX_ok : SpecOk Tryd.prog 8 fwX := execS_loops H0_ok mixed Tryd.func8 (by kernel_rfl) (by kernel_rfl) (one_lp (c := lpFw) (by kernel_rfl) rgFw_is lpFw_ok)
def pF (l : List Vw) (m : Int) : PFw := ⟨l.length, l, m⟩
noncomputable def eF (l : List Vw) (m : Int) : AFw := endW (nxtC okFw goFw rdFw FFw muFw (pF l m)) ⟨0⟩
theorem few_r (l : List Vw) (m : Int) : T.path [true, true] (T.anon (fwX [rowV l, iv m])) = some ([(invC okFw (pF l m) ⟨0⟩, true), (decide ((eF l m).i < (l.length : Int)), true)], .s (.bool false)) := by kernel_rfl
theorem few_x (l : List Vw) (m : Int) : T.path [true, false] (T.anon (fwX [rowV l, iv m])) = some ([(invC okFw (pF l m) ⟨0⟩, true), (decide ((eF l m).i < (l.length : Int)), false)], .s (.bool (decide ((l.length : Int) ≤ m)))) := by kernel_rfl
def fewB (l : List Vw) (m : Int) : Bool := l.all (fun v => !decide (40 < dOf v)) && decide ((l.length : Int) ≤ m)
theorem few_run {l : List Vw} (m : Int) (h : l.length ≤ 9223372036854775807) : (fwX [rowV l, iv m]).eval = some (.s (.bool (fewB l m))) := by
  rw [← T.eval_anon (t := fwX _)]
  have h0 : okFw (pF l m) ⟨0⟩ := ⟨rfl, h, Int.le_refl _, Int.natCast_nonneg _, fun v hv => by
    have hv : v ∈ l.take 0 := hv
    simp at hv⟩
  obtain ⟨k1, k2⟩ := endC stepFw h0
  have k1 : okFw (pF l m) (eF l m) := k1
  have k2 : goFw (pF l m) (eF l m) = false := k2
  obtain ⟨-, -, i0, i1, g⟩ := k1
  have i1 : (eF l m).i ≤ (l.length : Int) := i1
  unfold fewB
  by_cases hi : (eF l m).i < (l.length : Int)
  · have hb := of_decide_eq_true (fw_bad k2 hi)
    have hl : (eF l m).i.toNat < l.length := by omega
    have ex : vA l (eF l m).i = l[(eF l m).i.toNat] := vA_at hl
    have : l.all (fun v => !decide (40 < dOf v)) = false := by
      rw [List.all_eq_false]
      refine ⟨l[(eF l m).i.toNat], List.getElem_mem hl, ?_⟩
      rw [← ex]
      have hb : 40 < dOf (vA l (eF l m).i) := hb
      simp [hb]
    rw [this]
    exact T.path_eval (few_r l m) ⟨invC_is h0, decide_eq_true hi, trivial⟩
  · have : l.all (fun v => !decide (40 < dOf v)) = true := by
      rw [List.all_eq_true]
      intro v hv
      have e : List.take (eF l m).i.toNat (pF l m).l = l := List.take_of_length_le (by show l.length ≤ _; omega)
      have := g v (by rw [e]; exact hv)
      simp only [this, decide_false, Bool.not_false]
    rw [this, Bool.true_and]
    exact T.path_eval (few_x l m) ⟨invC_is h0, decide_eq_false hi, trivial⟩
def fewS : Eng.Spec
  | [.orow t [.int .i64, .int .i64, .bool, .bool, .sl, .int .i64, .int .i64, .int .i64, .int .i64, .int .i64, .int .i64, .int .i64, .int .i64, .int .i64, .bool] l, .s (.int .i64 m)] => if t = 38 then .ite none (decide (List.length l ≤ 9223372036854775807)) (.ret (.s (.bool (fewB l m)))) .fail else .fail
  | _ => .fail
theorem fewS_ok : SpecOk Tryd.prog 8 fewS := fwX_ok.of_den fun args v hfl h => by
  clear hfl
  unfold fewS at h
  split at h
  · rename_i t l m
    split at h
    · rename_i ht
      subst ht
      obtain ⟨hb, h2⟩ := ite_T' h
      obtain rfl := Option.some.inj h2
      exact ⟨_, few_run m (of_decide_eq_true hb), ⟨rfl, rfl⟩, rfl⟩
    · cases h
  · cases h
noncomputable def H1 : Cfg := ⟨Tryd.prog, lookG [(8, .val fewS), (9, .val rtS), (12, .val sumS)], [], 0⟩
theorem H1_ok : H1.Ok := Cfg.ok ⟨fewS_ok, rtS_ok, sumS_ok, trivial⟩ trivial
end Go.Proofs.YtndcealgackgiaaDoor.Rep

/- Layer 27: ReportSums: the law run. -/
namespace Go.Proofs.YtndcealgackgiaaDoor.Rep
set_option linter.unusedSectionVars false
variable [Go.Eng.GW]
open Go.Eng Go.RowKit Go.Proofs.YtndcealgackgiaaDoor.Txt
set_option linter.unusedVariables false
set_option linter.unusedSimpArgs false
set_option maxRecDepth 100000
def oneU (l : List Vw) : Int := IntKind.wrap .u64 (IntKind.wrap .i64 ((l.length : Int) + 1))
def kk (l : List Vw) (n : Int) : Int := IntKind.wrap .i64 (Int.tmod (IntKind.wrap .u64 n) (oneU l))
def LL (l : List Vw) : List Vw := List.take l.length (List.drop 0 l)
def FP (l : List Vw) (n : Int) : List Vw := List.take (Int.toNat (kk l n) - Int.toNat 0) (List.drop (Int.toNat 0) l)
def SP (l : List Vw) (n : Int) : List Vw := List.take (Int.toNat (l.length : Int) - Int.toNat (kk l n)) (List.drop (Int.toNat (kk l n)) l)
def b0 (l : List Vw) : Bool := decide (0 + l.length ≤ l.length)
def b1 (l : List Vw) : Bool := decide ((LL l).length ≤ 9223372036854775807)
def b3 (l : List Vw) : Bool := oneU l == 0
def b5 (l : List Vw) : Bool := decide (List.length l ≤ 1000000000)
def b6 (l : List Vw) (n : Int) : Bool := decide ((0 : Int) ≤ 0) && (decide (0 ≤ kk l n) && (decide (kk l n ≤ (l.length : Int)) && decide (l.length ≤ l.length)))
def b7 (l : List Vw) (n : Int) : Bool := decide (Int.toNat 0 + (Int.toNat (kk l n) - Int.toNat 0) ≤ l.length)
def b9 (l : List Vw) (n : Int) : Bool := decide (0 ≤ kk l n) && (decide (kk l n ≤ (l.length : Int)) && (decide ((l.length : Int) ≤ (l.length : Int)) && decide (l.length ≤ l.length)))
def b10 (l : List Vw) (n : Int) : Bool := decide (Int.toNat (kk l n) + (Int.toNat (l.length : Int) - Int.toNat (kk l n)) ≤ l.length)
def finS (l f s : List Vw) : Bool := bif bif bif suW l == mx (suW f) (suW s) then suD l == mx (suD f) (suD s) else false then (suC l : Int) == IntKind.wrap .i64 ((suC f : Int) + (suC s : Int)) else false then (suX l : Int) == IntKind.wrap .i64 ((suX f : Int) + (suX s : Int)) else false
theorem mx_fold_nn (f : Vw → Int) : ∀ (l : List Vw) (w : Int), 0 ≤ w → 0 ≤ l.foldl (fun w v => mx w (f v)) w
  | [], w, h => h
  | v :: l, w, h => mx_fold_nn f l (mx w (f v)) (by unfold mx; split <;> omega)
theorem mx_fold (f : Vw → Int) : ∀ (l : List Vw) (w : Int), 0 ≤ w → l.foldl (fun w v => mx w (f v)) w = mx w (l.foldl (fun w v => mx w (f v)) 0)
  | [], w, h => by
    show w = mx w 0
    unfold mx; split <;> omega
  | v :: l, w, h => by
    show l.foldl (fun w v => mx w (f v)) (mx w (f v)) = mx w (l.foldl (fun w v => mx w (f v)) (mx 0 (f v)))
    rw [mx_fold f l (mx w (f v)) (by unfold mx; split <;> omega), mx_fold f l (mx 0 (f v)) (by unfold mx; split <;> omega)]
    generalize l.foldl (fun w v => mx w (f v)) 0 = r
    generalize f v = a
    unfold mx
    repeat' split
    all_goals omega
theorem mx_app (f : Vw → Int) (a b : List Vw) : (a ++ b).foldl (fun w v => mx w (f v)) 0 = mx (a.foldl (fun w v => mx w (f v)) 0) (b.foldl (fun w v => mx w (f v)) 0) := by
  rw [List.foldl_append]
  exact mx_fold f b _ (mx_fold_nn f a 0 (Int.le_refl _))
theorem finS_is {l f s : List Vw} (e : l = f ++ s) (hl : l.length ≤ 1000) : finS l f s = true := by
  have c1 : ∀ g : Vw → Bool, IntKind.wrap .i64 (((f.countP g : Nat) : Int) + ((s.countP g : Nat) : Int)) = ((l.countP g : Nat) : Int) := fun g => by
    have h1 := List.countP_le_length (p := g) (l := l)
    have h2 : l.countP g = f.countP g + s.countP g := by rw [e, List.countP_append]
    rw [wrap64_in (by omega) (by omega)]; omega
  have ew : suW l = mx (suW f) (suW s) := by unfold suW; rw [e]; exact mx_app wOf f s
  have ed : suD l = mx (suD f) (suD s) := by unfold suD; rw [e]; exact mx_app dOf f s
  unfold finS
  rw [← ew, ← ed, show IntKind.wrap .i64 ((suC f : Int) + (suC s : Int)) = (suC l : Int) from c1 pnOf, show IntKind.wrap .i64 ((suX f : Int) + (suX s : Int)) = (suX l : Int) from c1 pxOf]
  simp
theorem LL_is (l : List Vw) : LL l = l := by unfold LL; rw [List.drop_zero, List.take_length]
end Go.Proofs.YtndcealgackgiaaDoor.Rep

/- Layer 27: the document's Sum and Ends: loops. -/
namespace Go.Proofs.YtndcealgackgiaaDoor.Rep
set_option linter.unusedSectionVars false
variable [Go.Eng.GW]
open Go.Eng Go.RowKit Go.Proofs.YtndcealgackgiaaDoor.Txt
set_option linter.unusedVariables false
set_option linter.unusedSimpArgs false
set_option maxRecDepth 100000
noncomputable def lpSq : Code := loopAt Tryd.prog 13 0
structure PSq where (n : Nat) (l : List Vw)
structure ASq where (w : Int) (d : Int) (c : Int) (x : Int) (i : Int)
abbrev SSq : List (Nat × Src) := [(0, .same)]
def vsSq (p : PSq) (a : ASq) : List V := [.sub 0 15 0 p.n, iv a.w, iv a.d, iv a.c, iv a.x, iv a.i]
def bsSq (p : PSq) (a : ASq) : List Blk := [.lst false 38 [.int .i64, .int .i64, .bool, .bool, .sl, .int .i64, .int .i64, .int .i64, .int .i64, .int .i64, .int .i64, .int .i64, .int .i64, .int .i64, .bool] p.l]
noncomputable def FSq (p : PSq) (a : ASq) : St := mkSt [0,6,7,8,9,10] (keysR SSq) 4000 50 (vsSq p a) (bsSq p a)
abbrev SSqx : List (Nat × Src) := [(0, .same)]
noncomputable def rdSq (p : PSq) (a : ASq) : T (Ex × St) := T.anon (roundX H0 noLoops lpSq [0,6,7,8,9,10] SSq [6,7,8,9] SSqx 4000 4000 (mkSt [0,6,7,8,9,10] (keysR SSq) 4000 50 (vsSq p a) (bsSq p a)))
def decSq_v0 : V → Option ((Nat))
  | .sub 0 15 0 n => some (n)
  | _ => none
theorem decSq_v0_ok (b : V) (x0 : (Nat)) (h : decSq_v0 b = some x0) : b = .sub 0 15 0 (x0) := by
  unfold decSq_v0 at h
  split at h
  · cases h
    rfl
  · cases h
def decSq_v1 : V → Option ((Int))
  | .s (.int .i64 w) => some (w)
  | _ => none
theorem decSq_v1_ok (b : V) (x1 : (Int)) (h : decSq_v1 b = some x1) : b = iv (x1) := by
  unfold decSq_v1 at h
  split at h
  · cases h
    rfl
  · cases h
def decSq_v2 : V → Option ((Int))
  | .s (.int .i64 d) => some (d)
  | _ => none
theorem decSq_v2_ok (b : V) (x2 : (Int)) (h : decSq_v2 b = some x2) : b = iv (x2) := by
  unfold decSq_v2 at h
  split at h
  · cases h
    rfl
  · cases h
def decSq_v3 : V → Option ((Int))
  | .s (.int .i64 c) => some (c)
  | _ => none
theorem decSq_v3_ok (b : V) (x3 : (Int)) (h : decSq_v3 b = some x3) : b = iv (x3) := by
  unfold decSq_v3 at h
  split at h
  · cases h
    rfl
  · cases h
def decSq_v4 : V → Option ((Int))
  | .s (.int .i64 x) => some (x)
  | _ => none
theorem decSq_v4_ok (b : V) (x4 : (Int)) (h : decSq_v4 b = some x4) : b = iv (x4) := by
  unfold decSq_v4 at h
  split at h
  · cases h
    rfl
  · cases h
def decSq_v5 : V → Option ((Int))
  | .s (.int .i64 i) => some (i)
  | _ => none
theorem decSq_v5_ok (b : V) (x5 : (Int)) (h : decSq_v5 b = some x5) : b = iv (x5) := by
  unfold decSq_v5 at h
  split at h
  · cases h
    rfl
  · cases h
def decSq_b0 (b : Blk) : Option ((List Vw)) := rowsOf false 38 [.int .i64, .int .i64, .bool, .bool, .sl, .int .i64, .int .i64, .int .i64, .int .i64, .int .i64, .int .i64, .int .i64, .int .i64, .int .i64, .bool] b
theorem decSq_b0_ok (b : Blk) (y0 : (List Vw)) (h : decSq_b0 b = some y0) : b = .lst false 38 [.int .i64, .int .i64, .bool, .bool, .sl, .int .i64, .int .i64, .int .i64, .int .i64, .int .i64, .int .i64, .int .i64, .int .i64, .int .i64, .bool] (y0) := rowsOf_ok h
def decSq : List V → List Blk → Option (PSq × ASq)
  | [v0, v1, v2, v3, v4, v5], [b0] => (decSq_v0 v0).bind fun x0 => (decSq_v1 v1).bind fun x1 => (decSq_v2 v2).bind fun x2 => (decSq_v3 v3).bind fun x3 => (decSq_v4 v4).bind fun x4 => (decSq_v5 v5).bind fun x5 => (decSq_b0 b0).bind fun y0 => some (⟨(x0), (y0)⟩, ⟨(x1), (x2), (x3), (x4), (x5)⟩)
  | _, _ => none
theorem decSq_ok (l : List V) (b : List Blk) (d : PSq × ASq) (h : decSq l b = some d) : l = vsSq d.1 d.2 ∧ b = bsSq d.1 d.2 := by
  unfold decSq at h
  split at h
  · obtain ⟨x0, hx0, h⟩ := Option.bind_eq_some_iff.1 h
    obtain ⟨x1, hx1, h⟩ := Option.bind_eq_some_iff.1 h
    obtain ⟨x2, hx2, h⟩ := Option.bind_eq_some_iff.1 h
    obtain ⟨x3, hx3, h⟩ := Option.bind_eq_some_iff.1 h
    obtain ⟨x4, hx4, h⟩ := Option.bind_eq_some_iff.1 h
    obtain ⟨x5, hx5, h⟩ := Option.bind_eq_some_iff.1 h
    obtain ⟨y0, hy0, h⟩ := Option.bind_eq_some_iff.1 h
    have ex0 := decSq_v0_ok _ _ hx0
    have ex1 := decSq_v1_ok _ _ hx1
    have ex2 := decSq_v2_ok _ _ hx2
    have ex3 := decSq_v3_ok _ _ hx3
    have ex4 := decSq_v4_ok _ _ hx4
    have ex5 := decSq_v5_ok _ _ hx5
    have ey0 := decSq_b0_ok _ _ hy0
    cases h
    subst ex0 ex1 ex2 ex3 ex4 ex5 ey0
    exact ⟨rfl, rfl⟩
  · cases h
noncomputable def rgSq : Nat := (firstReg lpSq).getD 0
theorem rgSq_is : firstReg lpSq = some rgSq := by kernel_rfl
noncomputable def lpEq : Code := loopAt Tryd.prog 15 0
structure PEq where (n : Nat) (l : List Rq) (g : List Int)
structure AEq where (i : Int) (e : List Int)
abbrev SEq : List (Nat × Src) := [(0, .same), (1, .same), (9, .same)]
def vsEq (p : PEq) (a : AEq) : List V := [.sub 0 4 0 p.n, .pr 1 1 0 0, .pr 9 1 0 0, iv a.i]
def bsEq (p : PEq) (a : AEq) : List Blk := [.lst false 58 [.int .i64, .int .i64, .int .i64, .int .i64] p.l, .lst true 36 [.int .i64] p.g, .lst true 36 [.int .i64] a.e]
noncomputable def FEq (p : PEq) (a : AEq) : St := mkSt [0,2,3,4] (keysR SEq) 4000 29 (vsEq p a) (bsEq p a)
abbrev SEqx : List (Nat × Src) := [(0, .same), (1, .same), (9, .same)]
noncomputable def rdEq (p : PEq) (a : AEq) : T (Ex × St) := T.anon (roundX E0 noLoops lpEq [0,2,3,4] SEq [2,3] SEqx 4000 4000 (mkSt [0,2,3,4] (keysR SEq) 4000 29 (vsEq p a) (bsEq p a)))
def decEq_v0 : V → Option ((Nat))
  | .sub 0 4 0 n => some (n)
  | _ => none
theorem decEq_v0_ok (b : V) (x0 : (Nat)) (h : decEq_v0 b = some x0) : b = .sub 0 4 0 (x0) := by
  unfold decEq_v0 at h
  split at h
  · cases h
    rfl
  · cases h
def decEq_v1 : V → Option (Unit)
  | .pr 1 1 0 0 => some ()
  | _ => none
theorem decEq_v1_ok (b : V) (x1 : Unit) (h : decEq_v1 b = some x1) : b = .pr 1 1 0 0 := by
  unfold decEq_v1 at h
  split at h
  · cases h
    rfl
  · cases h
def decEq_v2 : V → Option (Unit)
  | .pr 9 1 0 0 => some ()
  | _ => none
theorem decEq_v2_ok (b : V) (x2 : Unit) (h : decEq_v2 b = some x2) : b = .pr 9 1 0 0 := by
  unfold decEq_v2 at h
  split at h
  · cases h
    rfl
  · cases h
def decEq_v3 : V → Option ((Int))
  | .s (.int .i64 i) => some (i)
  | _ => none
theorem decEq_v3_ok (b : V) (x3 : (Int)) (h : decEq_v3 b = some x3) : b = iv (x3) := by
  unfold decEq_v3 at h
  split at h
  · cases h
    rfl
  · cases h
def decEq_b0 : Blk → Option ((List Rq))
  | .lst false tt0 [.int .i64, .int .i64, .int .i64, .int .i64] l => if tt0 = 58 then some (l) else none
  | _ => none
theorem decEq_b0_ok (b : Blk) (y0 : (List Rq)) (h : decEq_b0 b = some y0) : b = .lst false 58 [.int .i64, .int .i64, .int .i64, .int .i64] (y0) := by
  unfold decEq_b0 at h
  split at h
  · obtain ⟨e0, h⟩ := ite_some0 h
    subst e0
    cases h
    rfl
  · cases h
def decEq_b1 : Blk → Option ((List Int))
  | .lst true tt0 [.int .i64] g => if tt0 = 36 then some (g) else none
  | _ => none
theorem decEq_b1_ok (b : Blk) (y1 : (List Int)) (h : decEq_b1 b = some y1) : b = .lst true 36 [.int .i64] (y1) := by
  unfold decEq_b1 at h
  split at h
  · obtain ⟨e0, h⟩ := ite_some0 h
    subst e0
    cases h
    rfl
  · cases h
def decEq_b2 : Blk → Option ((List Int))
  | .lst true tt0 [.int .i64] e => if tt0 = 36 then some (e) else none
  | _ => none
theorem decEq_b2_ok (b : Blk) (y2 : (List Int)) (h : decEq_b2 b = some y2) : b = .lst true 36 [.int .i64] (y2) := by
  unfold decEq_b2 at h
  split at h
  · obtain ⟨e0, h⟩ := ite_some0 h
    subst e0
    cases h
    rfl
  · cases h
def decEq : List V → List Blk → Option (PEq × AEq)
  | [v0, v1, v2, v3], [b0, b1, b2] => (decEq_v0 v0).bind fun x0 => (decEq_v1 v1).bind fun x1 => (decEq_v2 v2).bind fun x2 => (decEq_v3 v3).bind fun x3 => (decEq_b0 b0).bind fun y0 => (decEq_b1 b1).bind fun y1 => (decEq_b2 b2).bind fun y2 => some (⟨(x0), (y0), (y1)⟩, ⟨(x3), (y2)⟩)
  | _, _ => none
theorem decEq_ok (l : List V) (b : List Blk) (d : PEq × AEq) (h : decEq l b = some d) : l = vsEq d.1 d.2 ∧ b = bsEq d.1 d.2 := by
  unfold decEq at h
  split at h
  · obtain ⟨x0, hx0, h⟩ := Option.bind_eq_some_iff.1 h
    obtain ⟨x1, hx1, h⟩ := Option.bind_eq_some_iff.1 h
    obtain ⟨x2, hx2, h⟩ := Option.bind_eq_some_iff.1 h
    obtain ⟨x3, hx3, h⟩ := Option.bind_eq_some_iff.1 h
    obtain ⟨y0, hy0, h⟩ := Option.bind_eq_some_iff.1 h
    obtain ⟨y1, hy1, h⟩ := Option.bind_eq_some_iff.1 h
    obtain ⟨y2, hy2, h⟩ := Option.bind_eq_some_iff.1 h
    have ex0 := decEq_v0_ok _ _ hx0
    have ex1 := decEq_v1_ok _ _ hx1
    have ex2 := decEq_v2_ok _ _ hx2
    have ex3 := decEq_v3_ok _ _ hx3
    have ey0 := decEq_b0_ok _ _ hy0
    have ey1 := decEq_b1_ok _ _ hy1
    have ey2 := decEq_b2_ok _ _ hy2
    cases h
    subst ex0 ex1 ex2 ex3 ey0 ey1 ey2
    exact ⟨rfl, rfl⟩
  · cases h
noncomputable def rgEq : Nat := (firstReg lpEq).getD 0
theorem rgEq_is : firstReg lpEq = some rgEq := by kernel_rfl
end Go.Proofs.YtndcealgackgiaaDoor.Rep

/- Layer 27: the document's Sum and Ends: contracts. -/
namespace Go.Proofs.YtndcealgackgiaaDoor.Rep
set_option linter.unusedSectionVars false
variable [Go.Eng.GW]
open Go.Eng Go.RowKit Go.Proofs.YtndcealgackgiaaDoor.Txt
set_option linter.unusedVariables false
set_option linter.unusedSimpArgs false
set_option maxRecDepth 100000
def hSq (p : PSq) (a : ASq) (b1 b2 : Bool) : List (Bool × Bool) := [(decide (a.i < (p.n : Int)), true), (idR p.l p.n a.i, true), (ldR p.l a.i, true), (idR p.l p.n a.i, true), (ldR p.l a.i, true), (idR p.l p.n a.i, true), (ldR p.l a.i, true), (pnOf (vA p.l a.i), b1), (idR p.l p.n a.i, true), (ldR p.l a.i, true), (pxOf (vA p.l a.i), b2)]
theorem sq_w (p : PSq) (a : ASq) (b1 b2 : Bool) : T.path [true, true, true, true, true, true, true, b1, true, true, b2] (rdSq p a) = some (hSq p a b1 b2, (.normal, FSq p ⟨mx a.w (wOf (vA p.l a.i)), mx a.d (dOf (vA p.l a.i)), up b1 a.c, up b2 a.x, IntKind.wrap .i64 (a.i + 1)⟩)) := by
  cases b1 <;> cases b2 <;> kernel_rfl
def stSq (p : PSq) (a : ASq) : St := mkSt [6, 7, 8, 9] (keysR SSq) 4000 50 [iv a.w, iv a.d, iv a.c, iv a.x] (bsSq p a)
theorem sq_x (p : PSq) (a : ASq) : T.path [false] (rdSq p a) = some ([(decide (a.i < (p.n : Int)), false)], (.exit 0, stSq p a)) := by kernel_rfl
structure okSq (p : PSq) (a : ASq) : Prop where
  n : p.n = p.l.length
  n1 : p.n ≤ 1000000000
  i0 : 0 ≤ a.i
  i1 : a.i ≤ (p.n : Int)
  w : a.w = suW (p.l.take a.i.toNat)
  d : a.d = suD (p.l.take a.i.toNat)
  c : a.c = (suC (p.l.take a.i.toNat) : Int)
  x : a.x = (suX (p.l.take a.i.toNat) : Int)
def goSq (p : PSq) (a : ASq) : Bool := decide (a.i < (p.n : Int))
def muSq (p : PSq) (a : ASq) : Nat := ((p.n : Int) - a.i).toNat
theorem stepSq (p : PSq) (a : ASq) (h : okSq p a) (hg : goSq p a = true) : ∃ b, stepC okSq rdSq FSq muSq p a b := by
  have hg : a.i < (p.n : Int) := of_decide_eq_true hg
  obtain ⟨h1, h3, h4, h5, h6, h7, h8, h9⟩ := h
  have hl : a.i.toNat < p.l.length := by omega
  obtain ⟨y1, y2⟩ := idR_is (g := p.l) (k := p.n) (i := a.i) h1 h4 (by omega)
  have w : IntKind.wrap .i64 (a.i + 1) = a.i + 1 := wrap64_in (by omega) (by omega)
  have ev : vA p.l a.i = p.l[a.i.toNat] := by
    unfold vA
    rw [List.getD_eq_getElem?_getD, Nat.zero_add, List.getElem?_eq_getElem hl]; rfl
  have ek : p.l.take (a.i + 1).toNat = p.l.take a.i.toNat ++ [vA p.l a.i] := by
    rw [ev, show (a.i + 1).toNat = a.i.toNat + 1 by omega, List.take_add_one, List.getElem?_eq_getElem hl]; rfl
  have et : (p.l.take a.i.toNat).length ≤ 1000000000 := by rw [List.length_take]; omega
  have way := sq_w p a (pnOf (vA p.l a.i)) (pxOf (vA p.l a.i))
  rw [w] at way
  refine ⟨_, T.path_eval way ⟨decide_eq_true hg, y1, y2, y1, y2, y1, y2, rfl, y1, y2, rfl, trivial⟩, ⟨h1, h3, by show 0 ≤ a.i + 1; omega, by show a.i + 1 ≤ (p.n : Int); omega, ?_, ?_, ?_, ?_⟩, by show ((p.n : Int) - (a.i + 1)).toNat < ((p.n : Int) - a.i).toNat; omega⟩
  · show mx a.w (wOf (vA p.l a.i)) = suW (p.l.take (a.i + 1).toNat)
    rw [ek, h6]; unfold suW; rw [List.foldl_append]; rfl
  · show mx a.d (dOf (vA p.l a.i)) = suD (p.l.take (a.i + 1).toNat)
    rw [ek, h7]; unfold suD; rw [List.foldl_append]; rfl
  · show up (pnOf (vA p.l a.i)) a.c = (suC (p.l.take (a.i + 1).toNat) : Int)
    rw [ek, h8]; exact cnt_up pnOf _ _ et
  · show up (pxOf (vA p.l a.i)) a.x = (suX (p.l.take (a.i + 1).toNat) : Int)
    rw [ek, h9]; exact cnt_up pxOf _ _ et
def outSq (p : PSq) (a : ASq) : T (Ex × St) := .ret (.exit 0, stSq p a)
theorem exSq (p : PSq) (a : ASq) (h : okSq p a) (hg : goSq p a = false) (r : Ex × St) (hr : (outSq p a).eval = some r) : r.1 ≠ .normal ∧ (rdSq p a).eval = some r := by
  obtain rfl := Option.some.inj hr
  exact ⟨by simp, T.path_eval (sq_x p a) ⟨hg, trivial⟩⟩
noncomputable def famSq : LSpec := famE [0,6,7,8,9,10] SSq SSqx 4000 4000 50 decSq okSq goSq rdSq FSq muSq outSq
theorem lpSq_ok : LoopOk H0 lpSq famSq := famE_ok (vs := vsSq) (bs := bsSq) H0_ok mixed (noLoops_ok _) decSq_ok (fun _ _ => rfl) (fun _ _ => rfl) stepSq exSq
noncomputable def sqX0 : Eng.Spec := execS H0 (byReg [(rgSq, famSq)]) 13
theorem sqX0_ok : SpecOk Tryd.prog 13 sqX0 := execS_loops H0_ok mixed Tryd.func13 (by kernel_rfl) (by kernel_rfl) (one_lp (c := lpSq) (by kernel_rfl) rgSq_is lpSq_ok)
def pSq (l : List Vw) : PSq := ⟨l.length, l⟩
def aSq : ASq := ⟨0, 0, 0, 0, 0⟩
noncomputable def eSq (l : List Vw) : ASq := endW (nxtC okSq goSq rdSq FSq muSq (pSq l)) aSq
theorem sq_way (l : List Vw) : T.path [true] (T.anon (sqX0 [rowV l])) = some ([(invC okSq (pSq l) aSq, true)], .tup [iv (eSq l).w, iv (eSq l).d, iv (eSq l).c, iv (eSq l).x]) := by kernel_rfl
theorem sq_run {l : List Vw} (h : l.length ≤ 1000000000) : (sqX0 [rowV l]).eval = some (sumV l) := by
  rw [← T.eval_anon (t := sqX0 _)]
  have h0 : okSq (pSq l) aSq := ⟨rfl, h, Int.le_refl _, Int.natCast_nonneg _, rfl, rfl, rfl, rfl⟩
  obtain ⟨k1, k2⟩ := endC stepSq h0
  have k1 : okSq (pSq l) (eSq l) := k1
  have k2 : goSq (pSq l) (eSq l) = false := k2
  obtain ⟨-, -, i0, i1, w, d, c, x⟩ := k1
  have i1 : (eSq l).i ≤ (l.length : Int) := i1
  have hi : ¬ (eSq l).i < (l.length : Int) := of_decide_eq_false k2
  have et : List.take (eSq l).i.toNat (pSq l).l = l := List.take_of_length_le (by show l.length ≤ _; omega)
  rw [et] at w d c x
  have way := sq_way l
  rw [w, d, c, x] at way
  exact T.path_eval way ⟨invC_is h0, trivial⟩
theorem rsuS_ok : SpecOk Tryd.prog 13 sumS := sqX0_ok.of_den fun args v hfl h => by
  clear hfl
  unfold sumS at h
  split at h
  · rename_i t l
    split at h
    · rename_i ht
      subst ht
      obtain ⟨hb, h2⟩ := ite_T' h
      obtain rfl := Option.some.inj h2
      exact ⟨_, sq_run (of_decide_eq_true hb), ⟨rfl, rfl⟩, rfl⟩
    · cases h
  · cases h
def sEq (p : PEq) (a : AEq) : Int := (p.l.getD (0 + Int.toNat a.i) ((0, 0, 0, 0) : Rq)).2.2.1
def hEq (p : PEq) (a : AEq) (b : Bool) : List (Bool × Bool) := [(decide (a.i < (p.n : Int)), true), (idR p.l p.n a.i, true), (ldR p.l a.i, true), (inE (sEq p a), b)]
def kEq (p : PEq) (a : AEq) : List (Bool × Bool) := [(ixE a.e (sEq p a), true), (decide ((sEq p a).toNat < a.e.length), true), (ixE a.e (sEq p a), true), (decide ((sEq p a).toNat < a.e.length), true)]
theorem eq_y (p : PEq) (a : AEq) : T.path [true, true, true, true, true, true, true, true] (rdEq p a) = some (hEq p a true ++ kEq p a, (.normal, FEq p ⟨IntKind.wrap .i64 (a.i + 1), a.e.set (sEq p a).toNat (IntKind.wrap .i64 (a.e.getD (sEq p a).toNat 0 + 1))⟩)) := by kernel_rfl
theorem eq_n (p : PEq) (a : AEq) : T.path [true, true, true, false] (rdEq p a) = some (hEq p a false, (.normal, FEq p ⟨IntKind.wrap .i64 (a.i + 1), a.e⟩)) := by kernel_rfl
def stEq (p : PEq) (a : AEq) : St := mkSt [2, 3] (keysR SEq) 4000 29 [.pr 1 1 0 0, .pr 9 1 0 0] (bsEq p a)
theorem eq_x (p : PEq) (a : AEq) : T.path [false] (rdEq p a) = some ([(decide (a.i < (p.n : Int)), false)], (.exit 0, stEq p a)) := by kernel_rfl
structure okEq (p : PEq) (a : AEq) : Prop where
  n : p.n = p.l.length
  n1 : p.n ≤ 1000000000
  i0 : 0 ≤ a.i
  i1 : a.i ≤ (p.n : Int)
  e : a.e = cntE (p.l.take a.i.toNat)
def goEq (p : PEq) (a : AEq) : Bool := decide (a.i < (p.n : Int))
def muEq (p : PEq) (a : AEq) : Nat := ((p.n : Int) - a.i).toNat
theorem stepEq (p : PEq) (a : AEq) (h : okEq p a) (hg : goEq p a = true) : ∃ b, stepC okEq rdEq FEq muEq p a b := by
  have hg : a.i < (p.n : Int) := of_decide_eq_true hg
  obtain ⟨h1, h3, h4, h5, h6⟩ := h
  have hl : a.i.toNat < p.l.length := by omega
  obtain ⟨y1, y2⟩ := idR_is (g := p.l) (k := p.n) (i := a.i) h1 h4 (by omega)
  have w : IntKind.wrap .i64 (a.i + 1) = a.i + 1 := wrap64_in (by omega) (by omega)
  have es : sEq p a = (p.l[a.i.toNat]).2.2.1 := by
    unfold sEq
    rw [List.getD_eq_getElem?_getD, Nat.zero_add, List.getElem?_eq_getElem hl]; rfl
  have ek : p.l.take (a.i + 1).toNat = p.l.take a.i.toNat ++ [p.l[a.i.toNat]] := by
    rw [show (a.i + 1).toNat = a.i.toNat + 1 by omega, List.take_add_one, List.getElem?_eq_getElem hl]; rfl
  have hd : ∀ b, inE (sEq p a) = b → allSay (hEq p a b) := fun b hb => ⟨decide_eq_true hg, y1, y2, hb, trivial⟩
  have mu : ∀ e, muEq p ⟨a.i + 1, e⟩ < muEq p a := fun e => by show ((p.n : Int) - (a.i + 1)).toNat < ((p.n : Int) - a.i).toNat; omega
  cases hb : inE (sEq p a) with
  | false =>
    have way := eq_n p a
    rw [w] at way
    refine ⟨_, T.path_eval way (hd _ hb), ⟨h1, h3, by show 0 ≤ a.i + 1; omega, by show a.i + 1 ≤ (p.n : Int); omega, ?_⟩, mu _⟩
    show a.e = cntE (p.l.take (a.i + 1).toNat)
    rw [ek, cntE_no _ _ (by rw [← es]; exact hb)]; exact h6
  | true =>
    obtain ⟨s1, s2⟩ := inE_is hb
    have way := eq_y p a
    have el : a.e.length = 7 := by rw [h6]; exact cntE_len _
    have eg : a.e.getD (sEq p a).toNat 0 = (cN (p.l.take a.i.toNat) (sEq p a).toNat : Int) := by rw [h6]; exact cntE_at _ _ (by omega)
    have eb := cN_le (p.l.take a.i.toNat) (sEq p a).toNat
    have et : (p.l.take a.i.toNat).length ≤ 1000000000 := by rw [List.length_take]; omega
    have w2 : IntKind.wrap .i64 (a.e.getD (sEq p a).toNat 0 + 1) = a.e.getD (sEq p a).toNat 0 + 1 := wrap64_in (by omega) (by omega)
    rw [w, w2] at way
    have c1 : ixE a.e (sEq p a) = true := by
      unfold ixE
      rw [decide_eq_true (show 0 ≤ sEq p a by omega), decide_eq_true (show sEq p a < ((7 : Nat) : Int) by omega), decide_eq_true (show (sEq p a).toNat < a.e.length by omega)]; rfl
    have c2 : decide ((sEq p a).toNat < a.e.length) = true := decide_eq_true (by omega)
    refine ⟨_, T.path_eval way (allSay_append (hd _ hb) ⟨c1, c2, c1, c2, trivial⟩), ⟨h1, h3, by show 0 ≤ a.i + 1; omega, by show a.i + 1 ≤ (p.n : Int); omega, ?_⟩, mu _⟩
    show a.e.set (sEq p a).toNat (a.e.getD (sEq p a).toNat 0 + 1) = cntE (p.l.take (a.i + 1).toNat)
    rw [ek, h6, es]
    exact cntE_yes _ _ (by rw [← es]; exact hb)
def outEq (p : PEq) (a : AEq) : T (Ex × St) := .ret (.exit 0, stEq p a)
theorem exEq (p : PEq) (a : AEq) (h : okEq p a) (hg : goEq p a = false) (r : Ex × St) (hr : (outEq p a).eval = some r) : r.1 ≠ .normal ∧ (rdEq p a).eval = some r := by
  obtain rfl := Option.some.inj hr
  exact ⟨by simp, T.path_eval (eq_x p a) ⟨hg, trivial⟩⟩
noncomputable def famEq : LSpec := famE [0,2,3,4] SEq SEqx 4000 4000 29 decEq okEq goEq rdEq FEq muEq outEq
theorem lpEq_ok : LoopOk E0 lpEq famEq := famE_ok (vs := vsEq) (bs := bsEq) E0_ok mixed (noLoops_ok _) decEq_ok (fun _ _ => rfl) (fun _ _ => rfl) stepEq exEq
noncomputable def eqX : Eng.Spec := execS E0 (byReg [(rgEq, famEq)]) 15
theorem eqX_ok : SpecOk Tryd.prog 15 eqX := execS_loops E0_ok mixed Tryd.func15 (by kernel_rfl) (by kernel_rfl) (one_lp (c := lpEq) (by kernel_rfl) rgEq_is lpEq_ok)
def pEq (l : List Rq) : PEq := ⟨l.length, l, [0, 0, 0, 0, 0, 0, 0]⟩
def aEq : AEq := ⟨0, [0, 0, 0, 0, 0, 0, 0]⟩
noncomputable def eEq (l : List Rq) : AEq := endW (nxtC okEq goEq rdEq FEq muEq (pEq l)) aEq
theorem eq_way (l : List Rq) : T.path [true, true, true, true] (T.anon (eqX [rowE l])) = some ([(invC okEq (pEq l) aEq, true), (decide (7 ≤ (eEq l).e.length), true), (true, true), (true, true)], arrI (eEq l).e) := by kernel_rfl
theorem eq_run {l : List Rq} (h : l.length ≤ 1000000000) : (eqX [rowE l]).eval = some (arrI (cntE l)) := by
  rw [← T.eval_anon (t := eqX _)]
  have h0 : okEq (pEq l) aEq := ⟨rfl, h, Int.le_refl _, Int.natCast_nonneg _, rfl⟩
  obtain ⟨k1, k2⟩ := endC stepEq h0
  have k1 : okEq (pEq l) (eEq l) := k1
  have k2 : goEq (pEq l) (eEq l) = false := k2
  obtain ⟨-, -, i0, i1, e⟩ := k1
  have i1 : (eEq l).i ≤ (l.length : Int) := i1
  have hi : ¬ (eEq l).i < (l.length : Int) := of_decide_eq_false k2
  have ee : (eEq l).e = cntE l := by
    rw [e, List.take_of_length_le (by show l.length ≤ _; omega)]; rfl
  have way := eq_way l
  have hlen : decide (7 ≤ (eEq l).e.length) = true := by rw [ee, cntE_len]; rfl
  rw [ee] at way hlen
  exact T.path_eval way ⟨invC_is h0, hlen, rfl, rfl, trivial⟩
theorem renS_ok : SpecOk Tryd.prog 15 endsS := eqX_ok.of_den fun args v hfl h => by
  clear hfl
  unfold endsS at h
  split at h
  · rename_i t l
    split at h
    · rename_i ht
      subst ht
      obtain ⟨hb, h2⟩ := ite_T' h
      obtain rfl := Option.some.inj h2
      exact ⟨_, eq_run (of_decide_eq_true hb), ⟨rfl, rfl⟩, rfl⟩
    · cases h
  · cases h
end Go.Proofs.YtndcealgackgiaaDoor.Rep

/- Layer 27: the document's Signed; views with their pods. -/
namespace Go.Proofs.YtndcealgackgiaaDoor.Rep
set_option linter.unusedSectionVars false
variable [Go.Eng.GW]
open Go.Eng Go.RowKit Go.Proofs.YtndcealgackgiaaDoor.Txt
set_option linter.unusedVariables false
set_option linter.unusedSimpArgs false
set_option maxRecDepth 100000
noncomputable def N1 : Cfg := ⟨Tryd.prog, lookG [(61, .val decS)], [], 0⟩
theorem N1_ok : N1.Ok := Cfg.ok ⟨decS_ok, trivial⟩ trivial
noncomputable def sg1X : Eng.Spec := execS N1 noLoops 47
theorem sg1X_ok : SpecOk Tryd.prog 47 sg1X := execS_plain N1_ok mixed Tryd.func47 (by kernel_rfl) (by kernel_rfl)
/-- a pod's cells -/
abbrev KP : List K := [.int .i64, .int .i64, .int .i64, .int .i64]
abbrev Pd := Int × Int × Int × Int
/-- a view's cells, its pods lent as block 0 -/
def vwV (t want : Int) (pa pr : Bool) (n : Nat) (wa bu e0 e1 e2 e3 e4 e5 e6 : Int) (ov : Bool) : V :=
  .agg [.s (.int .i64 t), .s (.int .i64 want), .s (.bool pa), .s (.bool pr), .sub 0 4 0 n, .s (.int .i64 wa), .s (.int .i64 bu), .s (.int .i64 e0), .s (.int .i64 e1), .s (.int .i64 e2), .s (.int .i64 e3), .s (.int .i64 e4), .s (.int .i64 e5), .s (.int .i64 e6), .s (.bool ov)]
end Go.Proofs.YtndcealgackgiaaDoor.Rep

/- Layer 27: Line: its loops over a view's pods, the program's and the document's. -/
namespace Go.Proofs.YtndcealgackgiaaDoor.Rep
set_option linter.unusedSectionVars false
variable [Go.Eng.GW]
open Go.Eng Go.RowKit Go.Proofs.YtndcealgackgiaaDoor.Txt
set_option linter.unusedVariables false
set_option linter.unusedSimpArgs false
set_option maxRecDepth 100000
def bn (n : Int) : Int := IntKind.wrap .i64 (0 - if -9223372036854775807 > n then -9223372036854775807 else n)
theorem sg1_n (n : Int) : T.path [true, true, false] (T.anon (sg1X [.s (.int .i64 n)])) = some ([(decide (n < 0), true), (decide (0 ≤ bn n) && decide (bn n ≤ 9223372036854775807), true), (over ((⟨#[45]⟩ : ByteArray).size + (itoaB (bn n)).size), false)], .s (.str (⟨#[45]⟩ ++ itoaB (bn n)))) := by kernel_rfl
theorem sg1_p (n : Int) : T.path [false, true] (T.anon (sg1X [.s (.int .i64 n)])) = some ([(decide (n < 0), false), (decide (0 ≤ n) && decide (n ≤ 9223372036854775807), true)], .s (.str (itoaB n))) := by kernel_rfl
theorem decF_len : ∀ (f u : Nat), (decF f u).length ≤ f + 1
  | 0, u => Nat.le_refl 1
  | f + 1, u => by
    unfold decF
    split
    · show 1 ≤ _; omega
    · rw [List.length_append]
      have := decF_len f (u / 10)
      show _ + 1 ≤ _; omega
theorem itoaB_size (n : Int) : (itoaB n).size ≤ 21 := by
  show (itoaL n).length ≤ 21
  unfold itoaL
  split
  · have := decF_len 19 n.natAbs
    simp only [List.length_cons]; omega
  · have := decF_len 19 n.toNat
    omega
theorem sg1_run {n : Int} (h0 : -9223372036854775807 ≤ n) (h1 : n ≤ 9223372036854775807) : (sg1X [.s (.int .i64 n)]).eval = some (.s (.str (itoaB n))) := by
  rw [← T.eval_anon (t := sg1X _)]
  by_cases q : n < 0
  · have eb : bn n = -n := by
      unfold bn
      rw [if_neg (by omega)]
      show IntKind.wrap .i64 (0 - n) = -n
      rw [wrap64 (by omega) (by omega)]; omega
    have way := sg1_n n
    rw [eb] at way
    have sz := itoaB_size (-n)
    rw [T.path_eval way ⟨decide_eq_true q, by rw [decide_eq_true (show 0 ≤ -n by omega), decide_eq_true (show -n ≤ 9223372036854775807 by omega)]; rfl, over_no (by show 1 + _ ≤ _; omega), trivial⟩]
    congr 3
    refine of_L8 ?_
    rw [L8_append]
    show [45] ++ itoaL (-n) = itoaL n
    unfold itoaL
    rw [if_neg (by omega), if_pos q, show (-n).toNat = n.natAbs by omega]
    rfl
  · exact T.path_eval (sg1_p n) ⟨decide_eq_false q, by rw [decide_eq_true (show 0 ≤ n by omega), decide_eq_true h1]; rfl, trivial⟩
def sg1S : Eng.Spec
  | [.s (.int .i64 n)] => .ite none (decide (-9223372036854775807 ≤ n) && decide (n ≤ 9223372036854775807)) (.ret (.s (.str (itoaB n)))) .fail
  | _ => .fail
theorem sg1S_ok : SpecOk Tryd.prog 47 sg1S := sg1X_ok.of_den fun args v hfl h => by
  clear hfl
  unfold sg1S at h
  split at h
  · rename_i n
    obtain ⟨hb, h⟩ := ite_T' h
    rw [Bool.and_eq_true, decide_eq_true_eq, decide_eq_true_eq] at hb
    obtain rfl := Option.some.inj h
    exact ⟨_, sg1_run hb.1 hb.2, ⟨rfl, rfl⟩, rfl⟩
  · cases h
noncomputable def N1b : Cfg := ⟨Tryd.prog, lookG [(47, .val sg1S)], [], 0⟩
theorem N1b_ok : N1b.Ok := Cfg.ok ⟨sg1S_ok, trivial⟩ trivial
noncomputable def sg2X : Eng.Spec := execS N1b noLoops 24
theorem sg2X_ok : SpecOk Tryd.prog 24 sg2X := execS_plain N1b_ok mixed Tryd.func24 (by kernel_rfl) (by kernel_rfl)
theorem sg2_b (n : Int) : T.path [true] (T.anon (sg2X [.s (.int .i64 n)])) = some ([(n == -9223372036854775808, true)], .s (.str (itoaB (-9223372036854775808)))) := by kernel_rfl
theorem sg2_n (n : Int) : T.path [false, true] (T.anon (sg2X [.s (.int .i64 n)])) = some ([(n == -9223372036854775808, false), (decide (-9223372036854775807 ≤ n) && decide (n ≤ 9223372036854775807), true)], .s (.str (itoaB n))) := by kernel_rfl
theorem sg2_run {n : Int} (h0 : -9223372036854775808 ≤ n) (h1 : n ≤ 9223372036854775807) : (sg2X [.s (.int .i64 n)]).eval = some (.s (.str (itoaB n))) := by
  rw [← T.eval_anon (t := sg2X _)]
  by_cases q : n = -9223372036854775808
  · subst q
    exact T.path_eval (sg2_b _) ⟨by simp, trivial⟩
  · exact T.path_eval (sg2_n n) ⟨by simpa using q, by rw [decide_eq_true (show -9223372036854775807 ≤ n by omega), decide_eq_true h1]; rfl, trivial⟩
def sg2S : Eng.Spec
  | [.s (.int .i64 n)] => .ite none (in64 n) (.ret (.s (.str (itoaB n)))) .fail
  | _ => .fail
theorem sg2S_ok : SpecOk Tryd.prog 24 sg2S := sg2X_ok.of_den fun args v hfl h => by
  clear hfl
  unfold sg2S at h
  split at h
  · rename_i n
    obtain ⟨hb, h⟩ := ite_T' h
    obtain ⟨b1, b2⟩ := in64_is hb
    obtain rfl := Option.some.inj h
    exact ⟨_, sg2_run b1 b2, ⟨rfl, rfl⟩, rfl⟩
  · cases h
noncomputable def N2 : Cfg := ⟨Tryd.prog, lookG [(24, .val sg2S)], [], 0⟩
theorem N2_ok : N2.Ok := Cfg.ok ⟨sg2S_ok, trivial⟩ trivial
noncomputable def lpLc : Code := loopAt Tryd.prog 10 0
structure PLc where (t : Int) (want : Int) (pa : Bool) (pr : Bool) (n : Nat) (n2 : Nat) (wa : Int) (bu : Int) (e0 : Int) (e1 : Int) (e2 : Int) (e3 : Int) (e4 : Int) (e5 : Int) (e6 : Int) (ov : Bool) (l : List Pd) (k : Int)
structure ALc where (r : Int) (i : Int)
abbrev SLc : List (Nat × Src) := [(0, .same), (1, .same)]
def vsLc (p : PLc) (a : ALc) : List V := [.ptr 1 0, iv a.r, .sub 0 4 0 p.n, iv p.k, iv a.i]
def bsLc (p : PLc) (a : ALc) : List Blk := [.lst false 56 [.int .i64, .int .i64, .int .i64, .int .i64] p.l, .cells 38 [iv p.t, iv p.want, .s (.bool p.pa), .s (.bool p.pr), .sub 0 4 0 p.n2, iv p.wa, iv p.bu, iv p.e0, iv p.e1, iv p.e2, iv p.e3, iv p.e4, iv p.e5, iv p.e6, .s (.bool p.ov)]]
noncomputable def FLc (p : PLc) (a : ALc) : St := mkSt [1,3,8,9,10] (keysR SLc) 1002 53 (vsLc p a) (bsLc p a)
noncomputable def rdLc (p : PLc) (a : ALc) : T (Ex × St) := T.anon (roundN R1 noLoops lpLc [1,3,8,9,10] SLc 1000 1002 (mkSt [1,3,8,9,10] (keysR SLc) 1002 53 (vsLc p a) (bsLc p a)))
def decLc_v0 : V → Option (Unit)
  | .ptr 1 0 => some ()
  | _ => none
theorem decLc_v0_ok (b : V) (x0 : Unit) (h : decLc_v0 b = some x0) : b = .ptr 1 0 := by
  unfold decLc_v0 at h
  split at h
  · cases h
    rfl
  · cases h
def decLc_v1 : V → Option ((Int))
  | .s (.int .i64 r) => some (r)
  | _ => none
theorem decLc_v1_ok (b : V) (x1 : (Int)) (h : decLc_v1 b = some x1) : b = iv (x1) := by
  unfold decLc_v1 at h
  split at h
  · cases h
    rfl
  · cases h
def decLc_v2 : V → Option ((Nat))
  | .sub 0 4 0 n => some (n)
  | _ => none
theorem decLc_v2_ok (b : V) (x2 : (Nat)) (h : decLc_v2 b = some x2) : b = .sub 0 4 0 (x2) := by
  unfold decLc_v2 at h
  split at h
  · cases h
    rfl
  · cases h
def decLc_v3 : V → Option ((Int))
  | .s (.int .i64 k) => some (k)
  | _ => none
theorem decLc_v3_ok (b : V) (x3 : (Int)) (h : decLc_v3 b = some x3) : b = iv (x3) := by
  unfold decLc_v3 at h
  split at h
  · cases h
    rfl
  · cases h
def decLc_v4 : V → Option ((Int))
  | .s (.int .i64 i) => some (i)
  | _ => none
theorem decLc_v4_ok (b : V) (x4 : (Int)) (h : decLc_v4 b = some x4) : b = iv (x4) := by
  unfold decLc_v4 at h
  split at h
  · cases h
    rfl
  · cases h
def decLc_b0 : Blk → Option ((List Pd))
  | .lst false tt0 [.int .i64, .int .i64, .int .i64, .int .i64] l => if tt0 = 56 then some (l) else none
  | _ => none
theorem decLc_b0_ok (b : Blk) (y0 : (List Pd)) (h : decLc_b0 b = some y0) : b = .lst false 56 [.int .i64, .int .i64, .int .i64, .int .i64] (y0) := by
  unfold decLc_b0 at h
  split at h
  · obtain ⟨e0, h⟩ := ite_some0 h
    subst e0
    cases h
    rfl
  · cases h
def decLc_b1 : Blk → Option ((Int) × (Int) × (Bool) × (Bool) × (Nat) × (Int) × (Int) × (Int) × (Int) × (Int) × (Int) × (Int) × (Int) × (Int) × (Bool))
  | .cells tt0 [.s (.int .i64 t), .s (.int .i64 want), .s (.bool pa), .s (.bool pr), .sub 0 4 0 n2, .s (.int .i64 wa), .s (.int .i64 bu), .s (.int .i64 e0), .s (.int .i64 e1), .s (.int .i64 e2), .s (.int .i64 e3), .s (.int .i64 e4), .s (.int .i64 e5), .s (.int .i64 e6), .s (.bool ov)] => if tt0 = 38 then some (t, want, pa, pr, n2, wa, bu, e0, e1, e2, e3, e4, e5, e6, ov) else none
  | _ => none
theorem decLc_b1_ok (b : Blk) (y1 : (Int) × (Int) × (Bool) × (Bool) × (Nat) × (Int) × (Int) × (Int) × (Int) × (Int) × (Int) × (Int) × (Int) × (Int) × (Bool)) (h : decLc_b1 b = some y1) : b = .cells 38 [iv (y1.1), iv (y1.2.1), .s (.bool (y1.2.2.1)), .s (.bool (y1.2.2.2.1)), .sub 0 4 0 (y1.2.2.2.2.1), iv (y1.2.2.2.2.2.1), iv (y1.2.2.2.2.2.2.1), iv (y1.2.2.2.2.2.2.2.1), iv (y1.2.2.2.2.2.2.2.2.1), iv (y1.2.2.2.2.2.2.2.2.2.1), iv (y1.2.2.2.2.2.2.2.2.2.2.1), iv (y1.2.2.2.2.2.2.2.2.2.2.2.1), iv (y1.2.2.2.2.2.2.2.2.2.2.2.2.1), iv (y1.2.2.2.2.2.2.2.2.2.2.2.2.2.1), .s (.bool (y1.2.2.2.2.2.2.2.2.2.2.2.2.2.2))] := by
  unfold decLc_b1 at h
  split at h
  · obtain ⟨e0, h⟩ := ite_some0 h
    subst e0
    cases h
    rfl
  · cases h
def decLc : List V → List Blk → Option (PLc × ALc)
  | [v0, v1, v2, v3, v4], [b0, b1] => (decLc_v0 v0).bind fun x0 => (decLc_v1 v1).bind fun x1 => (decLc_v2 v2).bind fun x2 => (decLc_v3 v3).bind fun x3 => (decLc_v4 v4).bind fun x4 => (decLc_b0 b0).bind fun y0 => (decLc_b1 b1).bind fun y1 => some (⟨(y1.1), (y1.2.1), (y1.2.2.1), (y1.2.2.2.1), (x2), (y1.2.2.2.2.1), (y1.2.2.2.2.2.1), (y1.2.2.2.2.2.2.1), (y1.2.2.2.2.2.2.2.1), (y1.2.2.2.2.2.2.2.2.1), (y1.2.2.2.2.2.2.2.2.2.1), (y1.2.2.2.2.2.2.2.2.2.2.1), (y1.2.2.2.2.2.2.2.2.2.2.2.1), (y1.2.2.2.2.2.2.2.2.2.2.2.2.1), (y1.2.2.2.2.2.2.2.2.2.2.2.2.2.1), (y1.2.2.2.2.2.2.2.2.2.2.2.2.2.2), (y0), (x3)⟩, ⟨(x1), (x4)⟩)
  | _, _ => none
theorem decLc_ok (l : List V) (b : List Blk) (d : PLc × ALc) (h : decLc l b = some d) : l = vsLc d.1 d.2 ∧ b = bsLc d.1 d.2 := by
  unfold decLc at h
  split at h
  · obtain ⟨x0, hx0, h⟩ := Option.bind_eq_some_iff.1 h
    obtain ⟨x1, hx1, h⟩ := Option.bind_eq_some_iff.1 h
    obtain ⟨x2, hx2, h⟩ := Option.bind_eq_some_iff.1 h
    obtain ⟨x3, hx3, h⟩ := Option.bind_eq_some_iff.1 h
    obtain ⟨x4, hx4, h⟩ := Option.bind_eq_some_iff.1 h
    obtain ⟨y0, hy0, h⟩ := Option.bind_eq_some_iff.1 h
    obtain ⟨y1, hy1, h⟩ := Option.bind_eq_some_iff.1 h
    have ex0 := decLc_v0_ok _ _ hx0
    have ex1 := decLc_v1_ok _ _ hx1
    have ex2 := decLc_v2_ok _ _ hx2
    have ex3 := decLc_v3_ok _ _ hx3
    have ex4 := decLc_v4_ok _ _ hx4
    have ey0 := decLc_b0_ok _ _ hy0
    have ey1 := decLc_b1_ok _ _ hy1
    cases h
    subst ex0 ex1 ex2 ex3 ex4 ey0 ey1
    exact ⟨rfl, rfl⟩
  · cases h
noncomputable def rgLc : Nat := (firstReg lpLc).getD 0
theorem rgLc_is : firstReg lpLc = some rgLc := by kernel_rfl
noncomputable def lpLd : Code := loopAt Tryd.prog 11 0
structure PLd where (t : Int) (want : Int) (pa : Bool) (pr : Bool) (n2 : Nat) (wa : Int) (bu : Int) (e0 : Int) (e1 : Int) (e2 : Int) (e3 : Int) (e4 : Int) (e5 : Int) (e6 : Int) (ov : Bool) (l : List Pd)
structure ALd where (r : Int) (i : Int)
abbrev SLd : List (Nat × Src) := [(0, .same), (1, .same)]
def vsLd (p : PLd) (a : ALd) : List V := [.ptr 1 0, iv a.r, iv a.i]
def bsLd (p : PLd) (a : ALd) : List Blk := [.lst false 56 [.int .i64, .int .i64, .int .i64, .int .i64] p.l, .cells 38 [iv p.t, iv p.want, .s (.bool p.pa), .s (.bool p.pr), .sub 0 4 0 p.n2, iv p.wa, iv p.bu, iv p.e0, iv p.e1, iv p.e2, iv p.e3, iv p.e4, iv p.e5, iv p.e6, .s (.bool p.ov)]]
noncomputable def FLd (p : PLd) (a : ALd) : St := mkSt [1,3,4] (keysR SLd) 1002 63 (vsLd p a) (bsLd p a)
noncomputable def rdLd (p : PLd) (a : ALd) : T (Ex × St) := T.anon (roundN N2 noLoops lpLd [1,3,4] SLd 1000 1002 (mkSt [1,3,4] (keysR SLd) 1002 63 (vsLd p a) (bsLd p a)))
def decLd_v0 : V → Option (Unit)
  | .ptr 1 0 => some ()
  | _ => none
theorem decLd_v0_ok (b : V) (x0 : Unit) (h : decLd_v0 b = some x0) : b = .ptr 1 0 := by
  unfold decLd_v0 at h
  split at h
  · cases h
    rfl
  · cases h
def decLd_v1 : V → Option ((Int))
  | .s (.int .i64 r) => some (r)
  | _ => none
theorem decLd_v1_ok (b : V) (x1 : (Int)) (h : decLd_v1 b = some x1) : b = iv (x1) := by
  unfold decLd_v1 at h
  split at h
  · cases h
    rfl
  · cases h
def decLd_v2 : V → Option ((Int))
  | .s (.int .i64 i) => some (i)
  | _ => none
theorem decLd_v2_ok (b : V) (x2 : (Int)) (h : decLd_v2 b = some x2) : b = iv (x2) := by
  unfold decLd_v2 at h
  split at h
  · cases h
    rfl
  · cases h
def decLd_b0 : Blk → Option ((List Pd))
  | .lst false tt0 [.int .i64, .int .i64, .int .i64, .int .i64] l => if tt0 = 56 then some (l) else none
  | _ => none
theorem decLd_b0_ok (b : Blk) (y0 : (List Pd)) (h : decLd_b0 b = some y0) : b = .lst false 56 [.int .i64, .int .i64, .int .i64, .int .i64] (y0) := by
  unfold decLd_b0 at h
  split at h
  · obtain ⟨e0, h⟩ := ite_some0 h
    subst e0
    cases h
    rfl
  · cases h
def decLd_b1 : Blk → Option ((Int) × (Int) × (Bool) × (Bool) × (Nat) × (Int) × (Int) × (Int) × (Int) × (Int) × (Int) × (Int) × (Int) × (Int) × (Bool))
  | .cells tt0 [.s (.int .i64 t), .s (.int .i64 want), .s (.bool pa), .s (.bool pr), .sub 0 4 0 n2, .s (.int .i64 wa), .s (.int .i64 bu), .s (.int .i64 e0), .s (.int .i64 e1), .s (.int .i64 e2), .s (.int .i64 e3), .s (.int .i64 e4), .s (.int .i64 e5), .s (.int .i64 e6), .s (.bool ov)] => if tt0 = 38 then some (t, want, pa, pr, n2, wa, bu, e0, e1, e2, e3, e4, e5, e6, ov) else none
  | _ => none
theorem decLd_b1_ok (b : Blk) (y1 : (Int) × (Int) × (Bool) × (Bool) × (Nat) × (Int) × (Int) × (Int) × (Int) × (Int) × (Int) × (Int) × (Int) × (Int) × (Bool)) (h : decLd_b1 b = some y1) : b = .cells 38 [iv (y1.1), iv (y1.2.1), .s (.bool (y1.2.2.1)), .s (.bool (y1.2.2.2.1)), .sub 0 4 0 (y1.2.2.2.2.1), iv (y1.2.2.2.2.2.1), iv (y1.2.2.2.2.2.2.1), iv (y1.2.2.2.2.2.2.2.1), iv (y1.2.2.2.2.2.2.2.2.1), iv (y1.2.2.2.2.2.2.2.2.2.1), iv (y1.2.2.2.2.2.2.2.2.2.2.1), iv (y1.2.2.2.2.2.2.2.2.2.2.2.1), iv (y1.2.2.2.2.2.2.2.2.2.2.2.2.1), iv (y1.2.2.2.2.2.2.2.2.2.2.2.2.2.1), .s (.bool (y1.2.2.2.2.2.2.2.2.2.2.2.2.2.2))] := by
  unfold decLd_b1 at h
  split at h
  · obtain ⟨e0, h⟩ := ite_some0 h
    subst e0
    cases h
    rfl
  · cases h
def decLd : List V → List Blk → Option (PLd × ALd)
  | [v0, v1, v2], [b0, b1] => (decLd_v0 v0).bind fun x0 => (decLd_v1 v1).bind fun x1 => (decLd_v2 v2).bind fun x2 => (decLd_b0 b0).bind fun y0 => (decLd_b1 b1).bind fun y1 => some (⟨(y1.1), (y1.2.1), (y1.2.2.1), (y1.2.2.2.1), (y1.2.2.2.2.1), (y1.2.2.2.2.2.1), (y1.2.2.2.2.2.2.1), (y1.2.2.2.2.2.2.2.1), (y1.2.2.2.2.2.2.2.2.1), (y1.2.2.2.2.2.2.2.2.2.1), (y1.2.2.2.2.2.2.2.2.2.2.1), (y1.2.2.2.2.2.2.2.2.2.2.2.1), (y1.2.2.2.2.2.2.2.2.2.2.2.2.1), (y1.2.2.2.2.2.2.2.2.2.2.2.2.2.1), (y1.2.2.2.2.2.2.2.2.2.2.2.2.2.2), (y0)⟩, ⟨(x1), (x2)⟩)
  | _, _ => none
theorem decLd_ok (l : List V) (b : List Blk) (d : PLd × ALd) (h : decLd l b = some d) : l = vsLd d.1 d.2 ∧ b = bsLd d.1 d.2 := by
  unfold decLd at h
  split at h
  · obtain ⟨x0, hx0, h⟩ := Option.bind_eq_some_iff.1 h
    obtain ⟨x1, hx1, h⟩ := Option.bind_eq_some_iff.1 h
    obtain ⟨x2, hx2, h⟩ := Option.bind_eq_some_iff.1 h
    obtain ⟨y0, hy0, h⟩ := Option.bind_eq_some_iff.1 h
    obtain ⟨y1, hy1, h⟩ := Option.bind_eq_some_iff.1 h
    have ex0 := decLd_v0_ok _ _ hx0
    have ex1 := decLd_v1_ok _ _ hx1
    have ex2 := decLd_v2_ok _ _ hx2
    have ey0 := decLd_b0_ok _ _ hy0
    have ey1 := decLd_b1_ok _ _ hy1
    cases h
    subst ex0 ex1 ex2 ey0 ey1
    exact ⟨rfl, rfl⟩
  · cases h
noncomputable def rgLd : Nat := (firstReg lpLd).getD 0
theorem rgLd_is : firstReg lpLd = some rgLd := by kernel_rfl
end Go.Proofs.YtndcealgackgiaaDoor.Rep

/- Layer 27: Line: how many pods are ready; the families. -/
namespace Go.Proofs.YtndcealgackgiaaDoor.Rep
set_option linter.unusedSectionVars false
variable [Go.Eng.GW]
open Go.Eng Go.RowKit Go.Proofs.YtndcealgackgiaaDoor.Txt
set_option linter.unusedVariables false
set_option linter.unusedSimpArgs false
set_option maxRecDepth 100000
def pdAt (l : List Pd) (i : Int) : Pd := List.getD (α := Pd) l (0 + i.toNat) (Row.dflt [.int .i64, .int .i64, .int .i64, .int .i64])
/-- so many pods are ready -/
def rdy (l : List Pd) : Nat := (l.filter fun x => x.2.1 == 2).length
theorem rdy_le (l : List Pd) : rdy l ≤ l.length := List.length_filter_le _ _
theorem rdy_take {l : List Pd} {i : Int} (h0 : 0 ≤ i) (h1 : i < l.length) : rdy (l.take (i + 1).toNat) = rdy (l.take i.toNat) + (if (pdAt l i).2.1 == 2 then 1 else 0) := by
  have hn : i.toNat < l.length := by omega
  have e : pdAt l i = l[i.toNat] := by
    have : ∀ d : Pd, List.getD (α := Pd) l (0 + i.toNat) d = l[i.toNat] := fun d => by rw [Nat.zero_add, List.getD_eq_getElem?_getD, List.getElem?_eq_getElem hn]; rfl
    exact this _
  have e2 : (i + 1).toNat = i.toNat + 1 := by omega
  rw [e, e2]
  have e3 : l.take (i.toNat + 1) = l.take i.toNat ++ [l[i.toNat]] := (List.take_append_getElem hn).symm
  unfold rdy
  rw [e3, List.filter_append, List.length_append]
  congr 1
  by_cases q : (l[i.toNat].2.1 == 2) = true
  · rw [if_pos q]; simp [q]
  · rw [if_neg q]; simp [q]
theorem lc_n (p : PLc) (a : ALc) (c : Bool) : T.path [true, true, true, c] (rdLc p a) = some ([(decide (a.i < p.k), true), (decide (0 ≤ a.i) && (decide (a.i < (p.n : Int)) && decide (0 + a.i.toNat < p.l.length)), true), (decide (0 + a.i.toNat < p.l.length), true), ((pdAt p.l a.i).2.1 == 2, c)], (.normal, FLc p ⟨bif c then IntKind.wrap .i64 (a.r + 1) else a.r, IntKind.wrap .i64 (a.i + 1)⟩)) := by cases c <;> kernel_rfl
theorem lc_x (p : PLc) (a : ALc) : T.path [false] (rdLc p a) = some ([(decide (a.i < p.k), false)], (.exit 0, FLc p a)) := by kernel_rfl
structure okLc (p : PLc) (a : ALc) : Prop where
  k : p.k = p.l.length
  n : p.n = p.l.length
  m : p.l.length ≤ 1000
  i0 : 0 ≤ a.i
  i1 : a.i ≤ p.k
  r : a.r = (rdy (p.l.take a.i.toNat) : Int)
def goLc (p : PLc) (a : ALc) : Bool := decide (a.i < p.k)
def muLc (p : PLc) (a : ALc) : Nat := (p.k - a.i).toNat
theorem Lc_on {p : PLc} {a : ALc} (h : okLc p a) (hg : goLc p a = true) : (rdLc p a).eval = some (.normal, FLc p ⟨(rdy (p.l.take (a.i + 1).toNat) : Int), a.i + 1⟩) ∧ okLc p ⟨(rdy (p.l.take (a.i + 1).toNat) : Int), a.i + 1⟩ := by
  have hi : a.i < p.k := of_decide_eq_true hg
  obtain ⟨h1, h2, h3, h4, h5, h6⟩ := h
  have way := lc_n p a ((pdAt p.l a.i).2.1 == 2)
  have hr := rdy_take (l := p.l) h4 (by omega)
  have hle := rdy_le (p.l.take a.i.toNat)
  rw [List.length_take] at hle
  have er : (bif (pdAt p.l a.i).2.1 == 2 then IntKind.wrap .i64 (a.r + 1) else a.r) = (rdy (p.l.take (a.i + 1).toNat) : Int) := by
    rw [hr, h6]
    cases hc : (pdAt p.l a.i).2.1 == 2
    · simp
    · rw [cond_true, wrap64 (by omega) (by omega)]; simp
  rw [er, wrap64 (n := a.i + 1) (by omega) (by omega)] at way
  have c1 : decide (0 + a.i.toNat < p.l.length) = true := decide_eq_true (by omega)
  refine ⟨T.path_eval way ⟨hg, by rw [c1, decide_eq_true h4, decide_eq_true (show a.i < (p.n : Int) by omega)]; rfl, c1, rfl, trivial⟩, h1, h2, h3, by show 0 ≤ a.i + 1; omega, by show a.i + 1 ≤ p.k; omega, rfl⟩
theorem stepLc (p : PLc) (a : ALc) (h : okLc p a) (hg : goLc p a = true) : ∃ b, stepC okLc rdLc FLc muLc p a b := by
  obtain ⟨r1, r2⟩ := Lc_on h hg
  have hi : a.i < p.k := of_decide_eq_true hg
  exact ⟨_, r1, r2, by show (p.k - (a.i + 1)).toNat < (p.k - a.i).toNat; omega⟩
theorem exLc (p : PLc) (a : ALc) (h : okLc p a) (hg : goLc p a = false) : (rdLc p a).eval = some (.exit 0, FLc p a) := T.path_eval (lc_x p a) ⟨hg, trivial⟩
noncomputable def famLc : LSpec := famC [1,3,8,9,10] SLc 1000 1002 53 decLc okLc goLc rdLc FLc muLc (.exit 0)
theorem lpLc_ok : LoopOk R1 lpLc famLc := famC_ok (vs := vsLc) (bs := bsLc) R1_ok mixed (noLoops_ok _) decLc_ok (by simp) (fun _ _ => rfl) (fun _ _ => rfl) stepLc exLc
theorem Lc_end {p : PLc} (h1 : p.k = p.l.length) (h2 : p.n = p.l.length) (h3 : p.l.length ≤ 1000) : invC okLc p ⟨0, 0⟩ = true ∧ (endW (nxtC okLc goLc rdLc FLc muLc p) ⟨0, 0⟩) = ⟨(rdy p.l : Int), p.k⟩ := by
  have h0 : okLc p ⟨0, 0⟩ := ⟨h1, h2, h3, Int.le_refl _, by show 0 ≤ p.k; omega, rfl⟩
  obtain ⟨k1, k2, k3⟩ := endW_says (nxt := nxtC okLc goLc rdLc FLc muLc p) (I := fun a => okLc p a) (μ := muLc p) (fun a b _ e => (nxtC_some e).2.2) h0
  have g := nxtC_none stepLc k1 k2
  refine ⟨invC_is h0, ?_⟩
  generalize endW (nxtC okLc goLc rdLc FLc muLc p) ⟨0, 0⟩ = a at *
  obtain ⟨r, i⟩ := a
  have hi : ¬ i < p.k := of_decide_eq_false g
  obtain ⟨_, _, _, q4, q5, q6⟩ := k1
  dsimp only at q4 q5 q6
  have e1 : i = p.k := by omega
  rw [q6, e1, List.take_of_length_le (by omega)]
theorem ld_n (p : PLd) (a : ALd) (c : Bool) : T.path [true, true, true, c] (rdLd p a) = some ([(decide (a.i < (p.n2 : Int)), true), (decide (0 ≤ a.i) && (decide (a.i < (p.n2 : Int)) && decide (0 + a.i.toNat < p.l.length)), true), (decide (0 + a.i.toNat < p.l.length), true), ((pdAt p.l a.i).2.1 == 2, c)], (.normal, FLd p ⟨bif c then IntKind.wrap .i64 (a.r + 1) else a.r, IntKind.wrap .i64 (a.i + 1)⟩)) := by cases c <;> kernel_rfl
theorem ld_x (p : PLd) (a : ALd) : T.path [false] (rdLd p a) = some ([(decide (a.i < (p.n2 : Int)), false)], (.exit 0, FLd p a)) := by kernel_rfl
structure okLd (p : PLd) (a : ALd) : Prop where
  n : p.n2 = p.l.length
  m : p.l.length ≤ 1000
  i0 : 0 ≤ a.i
  i1 : a.i ≤ (p.n2 : Int)
  r : a.r = (rdy (p.l.take a.i.toNat) : Int)
def goLd (p : PLd) (a : ALd) : Bool := decide (a.i < (p.n2 : Int))
def muLd (p : PLd) (a : ALd) : Nat := ((p.n2 : Int) - a.i).toNat
theorem Ld_on {p : PLd} {a : ALd} (h : okLd p a) (hg : goLd p a = true) : (rdLd p a).eval = some (.normal, FLd p ⟨(rdy (p.l.take (a.i + 1).toNat) : Int), a.i + 1⟩) ∧ okLd p ⟨(rdy (p.l.take (a.i + 1).toNat) : Int), a.i + 1⟩ := by
  have hi : a.i < (p.n2 : Int) := of_decide_eq_true hg
  obtain ⟨h2, h3, h4, h5, h6⟩ := h
  have way := ld_n p a ((pdAt p.l a.i).2.1 == 2)
  have hr := rdy_take (l := p.l) h4 (by omega)
  have hle := rdy_le (p.l.take a.i.toNat)
  rw [List.length_take] at hle
  have er : (bif (pdAt p.l a.i).2.1 == 2 then IntKind.wrap .i64 (a.r + 1) else a.r) = (rdy (p.l.take (a.i + 1).toNat) : Int) := by
    rw [hr, h6]
    cases hc : (pdAt p.l a.i).2.1 == 2
    · simp
    · rw [cond_true, wrap64 (by omega) (by omega)]; simp
  rw [er, wrap64 (n := a.i + 1) (by omega) (by omega)] at way
  have c1 : decide (0 + a.i.toNat < p.l.length) = true := decide_eq_true (by omega)
  refine ⟨T.path_eval way ⟨hg, by rw [c1, decide_eq_true h4, decide_eq_true hi]; rfl, c1, rfl, trivial⟩, h2, h3, by show 0 ≤ a.i + 1; omega, by show a.i + 1 ≤ (p.n2 : Int); omega, rfl⟩
theorem stepLd (p : PLd) (a : ALd) (h : okLd p a) (hg : goLd p a = true) : ∃ b, stepC okLd rdLd FLd muLd p a b := by
  obtain ⟨r1, r2⟩ := Ld_on h hg
  have hi : a.i < (p.n2 : Int) := of_decide_eq_true hg
  exact ⟨_, r1, r2, by show ((p.n2 : Int) - (a.i + 1)).toNat < ((p.n2 : Int) - a.i).toNat; omega⟩
theorem exLd (p : PLd) (a : ALd) (h : okLd p a) (hg : goLd p a = false) : (rdLd p a).eval = some (.exit 0, FLd p a) := T.path_eval (ld_x p a) ⟨hg, trivial⟩
noncomputable def famLd : LSpec := famC [1,3,4] SLd 1000 1002 63 decLd okLd goLd rdLd FLd muLd (.exit 0)
theorem lpLd_ok : LoopOk N2 lpLd famLd := famC_ok (vs := vsLd) (bs := bsLd) N2_ok mixed (noLoops_ok _) decLd_ok (by simp) (fun _ _ => rfl) (fun _ _ => rfl) stepLd exLd
theorem Ld_end {p : PLd} (h2 : p.n2 = p.l.length) (h3 : p.l.length ≤ 1000) : invC okLd p ⟨0, 0⟩ = true ∧ (endW (nxtC okLd goLd rdLd FLd muLd p) ⟨0, 0⟩) = ⟨(rdy p.l : Int), (p.n2 : Int)⟩ := by
  have h0 : okLd p ⟨0, 0⟩ := ⟨h2, h3, Int.le_refl _, by show (0 : Int) ≤ p.n2; omega, rfl⟩
  obtain ⟨k1, k2, k3⟩ := endW_says (nxt := nxtC okLd goLd rdLd FLd muLd p) (I := fun a => okLd p a) (μ := muLd p) (fun a b _ e => (nxtC_some e).2.2) h0
  have g := nxtC_none stepLd k1 k2
  refine ⟨invC_is h0, ?_⟩
  generalize endW (nxtC okLd goLd rdLd FLd muLd p) ⟨0, 0⟩ = a at *
  obtain ⟨r, i⟩ := a
  have hi : ¬ i < (p.n2 : Int) := of_decide_eq_false g
  obtain ⟨_, _, q4, q5, q6⟩ := k1
  dsimp only at q4 q5 q6
  have e1 : i = (p.n2 : Int) := by omega
  rw [q6, e1, List.take_of_length_le (by omega)]
noncomputable def lnO : Eng.Obj := execO R1 (byReg [(rgLc, famLc)]) 10
theorem lnO_ok : ObjOk Tryd.prog 10 lnO := execO_loops R1_ok mixed Tryd.func10 (by kernel_rfl) (by kernel_rfl) (one_lp (c := lpLc) (by kernel_rfl) rgLc_is lpLc_ok)
noncomputable def leC : Code := loopAt Tryd.prog 11 1
noncomputable def rgLe : Nat := (firstReg leC).getD 0
theorem rgLe_is : firstReg leC = some rgLe := by kernel_rfl
noncomputable def ldO : Eng.Obj := execO N2 (byReg [(rgLd, famLd), (rgLe, unroll N2 noLoops leC 8)]) 11
theorem ldO_ok : ObjOk Tryd.prog 11 ldO := execO_loops N2_ok mixed Tryd.func11 (by kernel_rfl) (by kernel_rfl) (two_lp (c := lpLd) (c' := leC) (by kernel_rfl) rgLd_is rgLe_is (by kernel_rfl) lpLd_ok (unroll_ok N2_ok mixed (noLoops_ok _) 8))
end Go.Proofs.YtndcealgackgiaaDoor.Rep

/- Layer 27: Line: its ways, the program's and the document's; both are one text. -/
namespace Go.Proofs.YtndcealgackgiaaDoor.Rep
set_option linter.unusedSectionVars false
variable [Go.Eng.GW]
open Go.Eng Go.RowKit Go.Proofs.YtndcealgackgiaaDoor.Txt
set_option linter.unusedVariables false
set_option linter.unusedSimpArgs false
set_option maxRecDepth 100000
/-- n conditions that the text itself tells -/
def skp {α : Type} : Nat → T α → T α
  | 0, t => t
  | n + 1, .ite none c x y => skp n (bif c then x else y)
  | _ + 1, _ => .fail
/-- a way: what is chosen, and how many told conditions follow -/
def pv {α : Type} : List (Bool × Nat) → T α → Option (List (Bool × Bool) × α)
  | [], .ret a => some ([], a)
  | x :: w, .ite none c y z => match pv w (skp x.2 (bif x.1 then y else z)) with
    | some q => some ((c, x.1) :: q.1, q.2)
    | none => none
  | _, _ => none
theorem skp_eval {α : Type} {v : α} : ∀ {n : Nat} {t : T α}, (skp n t).eval = some v → t.eval = some v
  | 0, t, h => h
  | n + 1, .ite none c x y, h => by
    have := skp_eval (n := n) h
    cases c
    · exact this
    · exact this
  | n + 1, .ite (some _) _ _ _, h => by cases h
  | n + 1, .ret _, h => by cases h
  | n + 1, .fail, h => by cases h
theorem pv_eval {α : Type} {v : α} : ∀ {w : List (Bool × Nat)} {t : T α} {cs : List (Bool × Bool)}, pv w t = some (cs, v) → allSay cs → t.eval = some v
  | [], .ret a, cs, h, _ => by
    simp only [pv, Option.some.injEq, Prod.mk.injEq] at h
    rw [← h.2]; rfl
  | [], .ite _ _ _ _, cs, h, _ => by cases h
  | [], .fail, cs, h, _ => by cases h
  | x :: w, .ite none c y z, cs, h, ha => by
    unfold pv at h
    split at h
    · rename_i q hq
      simp only [Option.some.injEq, Prod.mk.injEq] at h
      obtain ⟨rfl, rfl⟩ := h
      have hc : c = x.1 := ha.1
      have := skp_eval (n := x.2) (pv_eval (w := w) (cs := q.1) hq ha.2)
      subst hc
      cases e : x.1
      · rw [e] at this; exact this
      · rw [e] at this; exact this
    · cases h
  | x :: w, .ite (some _) _ _ _, cs, h, _ => by cases h
  | x :: w, .ret _, cs, h, _ => by cases h
  | x :: w, .fail, cs, h, _ => by cases h
/-- a view, but for its pods and what is in the way -/
structure Vx where
  t : Int
  want : Int
  n : Nat
  wa : Int
  bu : Int
  e0 : Int
  e1 : Int
  e2 : Int
  e3 : Int
  e4 : Int
  e5 : Int
  e6 : Int
  ov : Bool
def vwX (x : Vx) (pa pr : Bool) : V := vwV x.t x.want pa pr x.n x.wa x.bu x.e0 x.e1 x.e2 x.e3 x.e4 x.e5 x.e6 x.ov
def hpX (l : List Pd) : Heap := [(0, .lst false 56 [.int .i64, .int .i64, .int .i64, .int .i64] l)]
def pC (x : Vx) (pa pr : Bool) (l : List Pd) : PLc := ⟨x.t, x.want, pa, pr, x.n, x.n, x.wa, x.bu, x.e0, x.e1, x.e2, x.e3, x.e4, x.e5, x.e6, x.ov, l, x.n⟩
def pD (x : Vx) (pa pr : Bool) (l : List Pd) : PLd := ⟨x.t, x.want, pa, pr, x.n, x.wa, x.bu, x.e0, x.e1, x.e2, x.e3, x.e4, x.e5, x.e6, x.ov, l⟩
noncomputable def rC (x : Vx) (pa pr : Bool) (l : List Pd) : Int := (endW (nxtC okLc goLc rdLc FLc muLc (pC x pa pr l)) ⟨0, 0⟩).r
noncomputable def rD (x : Vx) (pa pr : Bool) (l : List Pd) : Int := (endW (nxtC okLd goLd rdLd FLd muLd (pD x pa pr l)) ⟨0, 0⟩).r
def sp : ByteArray := ⟨#[32]⟩
def wPa : ByteArray := ⟨#[112, 97, 110, 105, 99]⟩
def wPr : ByteArray := ⟨#[112, 114, 111, 120, 121]⟩
def six (x : Vx) (r : Int) : List ByteArray := [itoaB x.t, itoaB x.want, itoaB x.n, itoaB r, itoaB x.wa, itoaB x.bu]
def parts (x : Vx) (r : Int) (pa pr : Bool) : List ByteArray := six x r ++ ((bif pa then [wPa] else []) ++ bif pr then [wPr] else [])
def jnG (l : List ByteArray) : Bool := decide (l.length ≤ 100000) && decide ((joinF (l.map fun x => x.data.toList) sp.data.toList).length ≤ 140737488355328)
noncomputable def cdC (x : Vx) (pa pr : Bool) (l : List Pd) : List (Bool × Bool) :=
  [(invC okLc (pC x pa pr l) ⟨0, 0⟩, true), (in64 x.t, true), (in64 x.want, true), (in64 x.n, true), (in64 (rC x pa pr l), true), (in64 x.wa, true), (in64 x.bu, true), (jnG (parts x (rC x pa pr l) pa pr), true)]
noncomputable def reC (x : Vx) (pa pr : Bool) (l : List Pd) : Option (List (Bool × Bool) × (V × Heap)) := some (cdC x pa pr l, (.s (.str (joV (parts x (rC x pa pr l) pa pr) sp)), []))
noncomputable def tC (x : Vx) (pa pr : Bool) (l : List Pd) : T (V × Heap) := T.anon (lnO [vwX x pa pr] (hpX l))
theorem lc_ff (x : Vx) (l : List Pd) : pv [(true, 3), (true, 2), (true, 2), (true, 2), (true, 2), (true, 2), (true, 3), (true, 0)] (tC x false false l) = reC x false false l := by kernel_rfl
theorem lc_ft (x : Vx) (l : List Pd) : pv [(true, 8), (true, 5), (true, 5), (true, 5), (true, 5), (true, 5), (true, 9), (true, 0)] (tC x false true l) = reC x false true l := by kernel_rfl
theorem lc_tf (x : Vx) (l : List Pd) : pv [(true, 8), (true, 5), (true, 5), (true, 5), (true, 5), (true, 5), (true, 9), (true, 0)] (tC x true false l) = reC x true false l := by kernel_rfl
theorem lc_tt (x : Vx) (l : List Pd) : pv [(true, 9), (true, 5), (true, 5), (true, 5), (true, 5), (true, 5), (true, 14), (true, 0)] (tC x true true l) = reC x true true l := by kernel_rfl
theorem lc_all (x : Vx) (l : List Pd) : ∀ pa pr : Bool, ∃ w, pv w (tC x pa pr l) = reC x pa pr l
  | false, false => ⟨_, lc_ff x l⟩
  | false, true => ⟨_, lc_ft x l⟩
  | true, false => ⟨_, lc_tf x l⟩
  | true, true => ⟨_, lc_tt x l⟩
def stD (c : ByteArray) (m : Int) : List (Bool × Bool) := [(over (c.size + sp.size), false), (in64 m, true), (over ((c ++ sp).size + (itoaB m).size), false)]
def c0 (x : Vx) : ByteArray := ⟨#[]⟩ ++ itoaB x.t
def c1 (x : Vx) : ByteArray := c0 x ++ sp ++ itoaB x.want
def c2 (x : Vx) : ByteArray := c1 x ++ sp ++ itoaB x.n
def c3 (x : Vx) (r : Int) : ByteArray := c2 x ++ sp ++ itoaB r
def c4 (x : Vx) (r : Int) : ByteArray := c3 x r ++ sp ++ itoaB x.wa
def c5 (x : Vx) (r : Int) : ByteArray := c4 x r ++ sp ++ itoaB x.bu
def sPa : ByteArray := ⟨#[32, 112, 97, 110, 105, 99]⟩
def sPr : ByteArray := ⟨#[32, 112, 114, 111, 120, 121]⟩
def endD (c : ByteArray) : Bool → Bool → ByteArray
  | false, false => c
  | false, true => c ++ sPr
  | true, false => c ++ sPa
  | true, true => c ++ sPa ++ sPr
def tlD (c : ByteArray) : Bool → Bool → List (Bool × Bool)
  | false, false => []
  | false, true => [(over (c.size + sPr.size), false)]
  | true, false => [(over (c.size + sPa.size), false)]
  | true, true => [(over (c.size + sPa.size), false), (over ((c ++ sPa).size + sPr.size), false)]
def cdD0 (x : Vx) (r : Int) (pa pr : Bool) : List (Bool × Bool) :=
  (in64 x.t, true) :: (over ((⟨#[]⟩ : ByteArray).size + (itoaB x.t).size), false) :: (stD (c0 x) x.want ++ (stD (c1 x) x.n ++ (stD (c2 x) r ++ (stD (c3 x r) x.wa ++ (stD (c4 x r) x.bu ++ tlD (c5 x r) pa pr)))))
noncomputable def reD (x : Vx) (pa pr : Bool) (l : List Pd) : Option (List (Bool × Bool) × (V × Heap)) := some ((invC okLd (pD x pa pr l) ⟨0, 0⟩, true) :: cdD0 x (rD x pa pr l) pa pr, (.s (.str (endD (c5 x (rD x pa pr l)) pa pr)), []))
noncomputable def tD (x : Vx) (pa pr : Bool) (l : List Pd) : T (V × Heap) := T.anon (ldO [vwX x pa pr] (hpX l))
def wdD : List (Bool × Nat) := [(true, 0), (true, 0), (false, 0), (false, 0), (true, 0), (false, 0), (false, 0), (true, 0), (false, 0), (false, 0), (true, 0), (false, 0), (false, 0), (true, 0), (false, 0), (false, 0), (true, 0)]
theorem ld_ff (x : Vx) (l : List Pd) : pv (wdD ++ [(false, 2)]) (tD x false false l) = reD x false false l := by kernel_rfl
theorem ld_ft (x : Vx) (l : List Pd) : pv (wdD ++ [(false, 2), (false, 0)]) (tD x false true l) = reD x false true l := by kernel_rfl
theorem ld_tf (x : Vx) (l : List Pd) : pv (wdD ++ [(false, 1), (false, 1)]) (tD x true false l) = reD x true false l := by kernel_rfl
theorem ld_tt (x : Vx) (l : List Pd) : pv (wdD ++ [(false, 1), (false, 1), (false, 0)]) (tD x true true l) = reD x true true l := by kernel_rfl
theorem ld_all (x : Vx) (l : List Pd) : ∀ pa pr : Bool, ∃ w, pv w (tD x pa pr l) = reD x pa pr l
  | false, false => ⟨_, ld_ff x l⟩
  | false, true => ⟨_, ld_ft x l⟩
  | true, false => ⟨_, ld_tf x l⟩
  | true, true => ⟨_, ld_tt x l⟩
/-- the line -/
def lineB (x : Vx) (r : Int) (pa pr : Bool) : ByteArray := joV (parts x r pa pr) sp
theorem line_same (x : Vx) (r : Int) (pa pr : Bool) : endD (c5 x r) pa pr = lineB x r pa pr := by
  refine of_L8 ?_
  have e : L8 (lineB x r pa pr) = joinF ((parts x r pa pr).map fun x => x.data.toList) sp.data.toList := rfl
  rw [e]
  have l5 : L8 (c5 x r) = L8 (itoaB x.t) ++ ([32] ++ (L8 (itoaB x.want) ++ ([32] ++ (L8 (itoaB x.n) ++ ([32] ++ (L8 (itoaB r) ++ ([32] ++ (L8 (itoaB x.wa) ++ ([32] ++ L8 (itoaB x.bu)))))))))) := by
    unfold c5 c4 c3 c2 c1 c0
    simp only [L8_append, List.append_assoc]
    rfl
  cases pa <;> cases pr
  · exact l5
  · show L8 (c5 x r ++ sPr) = _
    rw [L8_append, l5]
    simp only [List.append_assoc]
    rfl
  · show L8 (c5 x r ++ sPa) = _
    rw [L8_append, l5]
    simp only [List.append_assoc]
    rfl
  · show L8 (c5 x r ++ sPa ++ sPr) = _
    rw [L8_append, L8_append, l5]
    simp only [List.append_assoc]
    rfl
theorem c_size (x : Vx) (r : Int) : (c0 x).size ≤ 21 ∧ (c1 x).size ≤ 43 ∧ (c2 x).size ≤ 65 ∧ (c3 x r).size ≤ 87 ∧ (c4 x r).size ≤ 109 ∧ (c5 x r).size ≤ 131 := by
  have a0 := itoaB_size x.t
  have a1 := itoaB_size x.want
  have a2 := itoaB_size x.n
  have a3 := itoaB_size r
  have a4 := itoaB_size x.wa
  have a5 := itoaB_size x.bu
  have hs : sp.size = 1 := rfl
  have h0 : (c0 x).size = 0 + (itoaB x.t).size := by unfold c0; rw [ByteArray.size_append]; rfl
  have h1 : (c1 x).size = (c0 x).size + 1 + (itoaB x.want).size := by unfold c1; rw [ByteArray.size_append, ByteArray.size_append, hs]
  have h2 : (c2 x).size = (c1 x).size + 1 + (itoaB x.n).size := by unfold c2; rw [ByteArray.size_append, ByteArray.size_append, hs]
  have h3 : (c3 x r).size = (c2 x).size + 1 + (itoaB r).size := by unfold c3; rw [ByteArray.size_append, ByteArray.size_append, hs]
  have h4 : (c4 x r).size = (c3 x r).size + 1 + (itoaB x.wa).size := by unfold c4; rw [ByteArray.size_append, ByteArray.size_append, hs]
  have h5 : (c5 x r).size = (c4 x r).size + 1 + (itoaB x.bu).size := by unfold c5; rw [ByteArray.size_append, ByteArray.size_append, hs]
  omega
theorem stD_say {c : ByteArray} {m : Int} (hc : c.size ≤ 1000) (hm : in64 m = true) : allSay (stD c m) := by
  have hs : sp.size = 1 := rfl
  have := itoaB_size m
  exact ⟨over_no (by omega), hm, over_no (by rw [ByteArray.size_append]; omega), trivial⟩
/-- what must be so of a view -/
structure VxOk (x : Vx) : Prop where
  t : in64 x.t = true
  want : in64 x.want = true
  wa : in64 x.wa = true
  bu : in64 x.bu = true
  n : x.n ≤ 1000
theorem in64_nat {n : Nat} (h : n ≤ 1000) : in64 (n : Int) = true := by
  unfold in64
  rw [decide_eq_true (show -9223372036854775808 ≤ (n : Int) by omega), decide_eq_true (show (n : Int) ≤ 9223372036854775807 by omega)]; rfl
theorem parts_len (x : Vx) (r : Int) (pa pr : Bool) : jnG (parts x r pa pr) = true := by
  have hl : (joinF ((parts x r pa pr).map fun x => x.data.toList) sp.data.toList).length = (lineB x r pa pr).size := rfl
  obtain ⟨_, _, _, _, _, h5⟩ := c_size x r
  have hz : (lineB x r pa pr).size ≤ 200 := by
    rw [← line_same]
    have h1 : sPa.size = 6 := rfl
    have h2 : sPr.size = 6 := rfl
    cases pa <;> cases pr
    · show (c5 x r).size ≤ 200; omega
    · show (c5 x r ++ sPr).size ≤ 200; rw [ByteArray.size_append]; omega
    · show (c5 x r ++ sPa).size ≤ 200; rw [ByteArray.size_append]; omega
    · show (c5 x r ++ sPa ++ sPr).size ≤ 200; rw [ByteArray.size_append, ByteArray.size_append]; omega
  unfold jnG
  rw [hl, decide_eq_true (show (lineB x r pa pr).size ≤ 140737488355328 by omega), Bool.and_true]
  cases pa <;> cases pr <;> rfl
theorem lnO_run {x : Vx} (hx : VxOk x) (pa pr : Bool) {l : List Pd} (hl : x.n = l.length) : (lnO [vwX x pa pr] (hpX l)).eval = some (.s (.str (lineB x (rdy l) pa pr)), []) := by
  rw [← T.eval_anon (t := lnO _ _)]
  obtain ⟨w, hw⟩ := lc_all x l pa pr
  obtain ⟨e1, e2⟩ := Lc_end (p := pC x pa pr l) (show (x.n : Int) = l.length by rw [hl]) hl (show l.length ≤ 1000 by rw [← hl]; exact hx.n)
  have er : rC x pa pr l = (rdy l : Int) := by unfold rC; rw [e2]; rfl
  have hr := rdy_le l
  have hn := hx.n
  unfold reC cdC at hw
  rw [er] at hw
  exact pv_eval hw ⟨e1, hx.t, hx.want, in64_nat hx.n, in64_nat (by omega), hx.wa, hx.bu, parts_len _ _ _ _, trivial⟩
theorem cdD0_say {x : Vx} (hx : VxOk x) {r : Int} (hr : in64 r = true) (pa pr : Bool) : allSay (cdD0 x r pa pr) := by
  obtain ⟨z0, z1, z2, z3, z4, z5⟩ := c_size x r
  have s0 := itoaB_size x.t
  have h1 : sPa.size = 6 := rfl
  have h2 : sPr.size = 6 := rfl
  have ht : allSay (tlD (c5 x r) pa pr) := by
    generalize c5 x r = c at *
    cases pa <;> cases pr
    · trivial
    · exact ⟨over_no (by omega), trivial⟩
    · exact ⟨over_no (by omega), trivial⟩
    · exact ⟨over_no (by omega), over_no (by rw [ByteArray.size_append]; omega), trivial⟩
  have b0 := stD_say (c := c0 x) (by omega) hx.want
  have b1 := stD_say (c := c1 x) (by omega) (in64_nat hx.n)
  have b2 := stD_say (c := c2 x) (by omega) hr
  have b3 := stD_say (c := c3 x r) (by omega) hx.wa
  have b4 := stD_say (c := c4 x r) (by omega) hx.bu
  exact ⟨hx.t, over_no (by show 0 + _ ≤ _; omega), allSay_append b0 (allSay_append b1 (allSay_append b2 (allSay_append b3 (allSay_append b4 ht))))⟩
theorem ldO_run {x : Vx} (hx : VxOk x) (pa pr : Bool) {l : List Pd} (hl : x.n = l.length) : (ldO [vwX x pa pr] (hpX l)).eval = some (.s (.str (lineB x (rdy l) pa pr)), []) := by
  rw [← T.eval_anon (t := ldO _ _)]
  obtain ⟨w, hw⟩ := ld_all x l pa pr
  obtain ⟨e1, e2⟩ := Ld_end (p := pD x pa pr l) (show x.n = l.length from hl) (show l.length ≤ 1000 by rw [← hl]; exact hx.n)
  have er : rD x pa pr l = (rdy l : Int) := by unfold rD; rw [e2]; rfl
  have hr := rdy_le l
  have hn := hx.n
  unfold reD at hw
  rw [er, line_same] at hw
  have hq := cdD0_say hx (r := rdy l) (in64_nat (by omega)) pa pr
  generalize cdD0 x (rdy l) pa pr = Q at hw hq
  generalize invC okLd (pD x pa pr l) ⟨0, 0⟩ = b at hw e1
  exact pv_eval hw ⟨e1, hq⟩
end Go.Proofs.YtndcealgackgiaaDoor.Rep

/- Layer 27: Line: its contract, the pods read in the world in which the law begins. -/
namespace Go.Proofs.YtndcealgackgiaaDoor.Rep
set_option linter.unusedSectionVars false
variable [Go.Eng.GW]
open Go.Eng Go.RowKit Go.Proofs.YtndcealgackgiaaDoor.Txt
set_option linter.unusedVariables false
set_option linter.unusedSimpArgs false
set_option maxRecDepth 100000
abbrev K4 : List K := [.int .i64, .int .i64, .int .i64, .int .i64]
noncomputable def podsW (z : Option Addr × Nat × Nat) : List Pd := open Classical in if h : Law.RowsAt K4 GW.w0 z then Classical.choose h else []
noncomputable def decP (p : Prop) : Bool := @decide p (Classical.propDecidable p)
theorem decP_is {p : Prop} : decP p = true ↔ p := @decide_eq_true_iff p (Classical.propDecidable p)
noncomputable def lnB (x : Vx) (z : Option Addr × Nat × Nat) : Bool := decP (Law.RowsAt K4 GW.w0 z ∧ VxOk x)
theorem lnB_is {x : Vx} {z : Option Addr × Nat × Nat} : lnB x z = true ↔ Law.RowsAt K4 GW.w0 z ∧ VxOk x := by
  unfold lnB
  exact decP_is
noncomputable def lineS : Eng.Spec
  | [.agg [.s (.int .i64 t), .s (.int .i64 want), .s (.bool pa), .s (.bool pr), .s (.sli a n c), .s (.int .i64 wa), .s (.int .i64 bu), .s (.int .i64 e0), .s (.int .i64 e1), .s (.int .i64 e2), .s (.int .i64 e3), .s (.int .i64 e4), .s (.int .i64 e5), .s (.int .i64 e6), .s (.bool ov)]] =>
    .ite none (lnB ⟨t, want, n, wa, bu, e0, e1, e2, e3, e4, e5, e6, ov⟩ (a, n, c)) (.ret (.s (.str (lineB ⟨t, want, n, wa, bu, e0, e1, e2, e3, e4, e5, e6, ov⟩ (rdy (podsW (a, n, c))) pa pr)))) .fail
  | _ => .fail
theorem podsW_is {z : Option Addr × Nat × Nat} (h : Law.RowsAt K4 GW.w0 z) : (podsW z).length = z.2.1 ∧ (z.2.1 ≤ z.2.2 ∧ (z.1 = none → z.2.2 = 0)) ∧ Reads GW.w0 z.1 (rowsV K4 (podsW z)) := by
  unfold podsW
  rw [dif_pos h]
  exact Classical.choose_spec h
/-- what stood when the law began stands -/
theorem reads_now {w : World} (hG : Glob w) {a : Option Addr} {cs : List Value} (h : Reads GW.w0 a cs) : Reads w a cs :=
  reads_kept h fun a' ha hn => hG.same a'.block (reads_lt h hn ha)
def viewV (x : Vx) (pa pr : Bool) (a : Option Addr) (c : Nat) : Value :=
  .agg #[.int .i64 x.t, .int .i64 x.want, .bool pa, .bool pr, .slice a x.n c, .int .i64 x.wa, .int .i64 x.bu, .int .i64 x.e0, .int .i64 x.e1, .int .i64 x.e2, .int .i64 x.e3, .int .i64 x.e4, .int .i64 x.e5, .int .i64 x.e6, .bool x.ov]
theorem look_hp {l : List Pd} {i : Nat} {b : Blk} (h : Eng.look (hpX l) i = some b) : i = 0 ∧ b = .lst false 56 K4 l := by
  unfold hpX at h
  simp only [Eng.look] at h
  split at h
  · rename_i q
    cases h
    simp at q
    exact ⟨q.symm, rfl⟩
  · cases h
theorem line_calls {f : Nat} {ob : Eng.Obj} (h : ObjOk Tryd.prog f ob) {x : Vx} {pa pr : Bool} {l : List Pd} {a : Option Addr} {c : Nat} {w : World} (hG : Glob w) (hl : x.n = l.length) (hc : x.n ≤ c ∧ (a = none → c = 0)) (hr : Reads w a (rowsV K4 l)) {s : ByteArray}
    (hv : (ob [vwX x pa pr] (hpX l)).eval = some (.s (.str s), [])) : Calls Tryd.prog f #[viewV x pa pr a c] w fun e w' => e = .returned (.string s) ∧ Below w.heap.size w w' := by
  let ν : Env := fun _ => ⟨⟨0, 0, c, a, false⟩, fun k => rowsV K4 l ≠ [] ∧ ∃ a', a = some a' ∧ k = a'.block⟩
  have hrel : Rel ν (Eng.look (hpX l)) w := by
    refine ⟨fun i b e => ?_, fun i j bi bj ne ei ej ho => ?_⟩
    · obtain ⟨rfl, rfl⟩ := look_hp e
      exact ⟨⟨Nat.le_trans (Nat.le_of_eq hl.symm) hc.1, hc.2⟩, hr, fun k => Iff.rfl⟩
    · obtain ⟨_, rfl⟩ := look_hp ei
      cases ho
  have hno : ∀ k, ¬ ownFp ν (hpX l) k := fun k ⟨j, b, e, ho, _⟩ => by
    obtain ⟨_, rfl⟩ := look_hp e
    cases ho
  have hcall := h.calls [vwX x pa pr] (hpX l) (.s (.str s)) [] ν w hG (fun k hk => absurd hk (hno k)) rfl (fun i b e => by
    obtain ⟨rfl, rfl⟩ := look_hp e
    exact ⟨rfl, Nat.zero_lt_one⟩) hrel hv rfl
  have ed : (denL ν [vwX x pa pr]).toArray = #[viewV x pa pr a c] := by
    have e : V.den ν (.sub 0 4 0 x.n) = .slice a x.n c := sub_den0
    unfold viewV
    rw [← e]
    rfl
  rw [ed] at hcall
  refine hcall.mono ?_
  rintro e w' ⟨ν', rfl, _, _, _, hp⟩
  exact ⟨rfl, hp.os, hp.tape, hp.output, hp.size, fun k hk => hp.block k hk (hno k)⟩
theorem lineS_ok {f : Nat} {ob : Eng.Obj} (h : ObjOk Tryd.prog f ob) (hrun : ∀ (x : Vx) (pa pr : Bool) (l : List Pd), VxOk x → x.n = l.length → (ob [vwX x pa pr] (hpX l)).eval = some (.s (.str (lineB x (rdy l) pa pr)), [])) : SpecOk Tryd.prog f lineS := by
  refine ⟨h.body, fun args v xs w hG hrow hv hfv hh => ?_⟩
  unfold lineS at hv
  split at hv
  · rename_i t want pa pr a n c wa bu e0 e1 e2 e3 e4 e5 e6 ov
    obtain ⟨hb, hv⟩ := ite_T' hv
    obtain rfl := Option.some.inj hv
    obtain ⟨hat, hx⟩ := lnB_is.1 hb
    obtain ⟨p1, p2, p3⟩ := podsW_is hat
    rw [holdsL_den (l := [.agg _]) rfl hh]
    refine (line_calls h (pa := pa) (pr := pr) (a := a) (c := c) hG p1.symm p2 (reads_now hG p3) (hrun _ pa pr _ hx p1.symm)).mono ?_
    rintro e w' ⟨rfl, hbl⟩
    exact ⟨_, rfl, (holds_flat (v := .s (.str _)) rfl).2 rfl, hbl⟩
  · cases hv
theorem plS_ok : SpecOk Tryd.prog 10 lineS := lineS_ok lnO_ok fun x pa pr l hx hl => lnO_run hx pa pr hl
theorem rlS_ok : SpecOk Tryd.prog 11 lineS := lineS_ok ldO_ok fun x pa pr l hx hl => ldO_run hx pa pr hl
noncomputable def A1 : Cfg := ⟨Tryd.prog, lookG [(8, .val fewS), (9, .val rtS), (10, .val lineS), (11, .val lineS), (12, .val sumS), (13, .val sumS), (14, .val endsS), (15, .val endsS)], [36], 0⟩
theorem A1_ok : A1.Ok := Cfg.ok ⟨fewS_ok, rtS_ok, plS_ok, rlS_ok, sumS_ok, rsuS_ok, endsS_ok, renS_ok, trivial⟩ ⟨⟨by kernel_rfl, by kernel_rfl⟩, trivial⟩
end Go.Proofs.YtndcealgackgiaaDoor.Rep

/- Layer 27: ReportAsks: its loop over views. -/
namespace Go.Proofs.YtndcealgackgiaaDoor.Rep
set_option linter.unusedSectionVars false
variable [Go.Eng.GW]
open Go.Eng Go.RowKit Go.Proofs.YtndcealgackgiaaDoor.Txt
set_option linter.unusedVariables false
set_option linter.unusedSimpArgs false
set_option maxRecDepth 100000
noncomputable def lpLa : Code := loopAt Tryd.prog 4 0
structure PLa where (l : List Vw) (r : List Rq) (n : Nat) (q : Nat)
structure ALa where (i : Int)
abbrev SLa : List (Nat × Src) := [(0, .same), (1, .same)]
def vsLa (p : PLa) (a : ALa) : List V := [.sub 0 15 0 p.n, .sub 1 4 0 p.q, iv a.i]
def bsLa (p : PLa) (a : ALa) : List Blk := [.lst false 38 [.int .i64, .int .i64, .bool, .bool, .sl, .int .i64, .int .i64, .int .i64, .int .i64, .int .i64, .int .i64, .int .i64, .int .i64, .int .i64, .bool] p.l, .lst false 58 [.int .i64, .int .i64, .int .i64, .int .i64] p.r]
noncomputable def FLa (p : PLa) (a : ALa) : St := mkSt [0,1,5] (keysR SLa) 1002 82 (vsLa p a) (bsLa p a)
noncomputable def rdLa (p : PLa) (a : ALa) : T (Ex × St) := T.anon (roundN A1 noLoops lpLa [0,1,5] SLa 1000 1002 (mkSt [0,1,5] (keysR SLa) 1002 82 (vsLa p a) (bsLa p a)))
def decLa_v0 : V → Option ((Nat))
  | .sub 0 15 0 n => some (n)
  | _ => none
theorem decLa_v0_ok (b : V) (x0 : (Nat)) (h : decLa_v0 b = some x0) : b = .sub 0 15 0 (x0) := by
  unfold decLa_v0 at h
  split at h
  · cases h
    rfl
  · cases h
def decLa_v1 : V → Option ((Nat))
  | .sub 1 4 0 q => some (q)
  | _ => none
theorem decLa_v1_ok (b : V) (x1 : (Nat)) (h : decLa_v1 b = some x1) : b = .sub 1 4 0 (x1) := by
  unfold decLa_v1 at h
  split at h
  · cases h
    rfl
  · cases h
def decLa_v2 : V → Option ((Int))
  | .s (.int .i64 i) => some (i)
  | _ => none
theorem decLa_v2_ok (b : V) (x2 : (Int)) (h : decLa_v2 b = some x2) : b = iv (x2) := by
  unfold decLa_v2 at h
  split at h
  · cases h
    rfl
  · cases h
def decLa_b0 (b : Blk) : Option ((List Vw)) := rowsOf false 38 [.int .i64, .int .i64, .bool, .bool, .sl, .int .i64, .int .i64, .int .i64, .int .i64, .int .i64, .int .i64, .int .i64, .int .i64, .int .i64, .bool] b
theorem decLa_b0_ok (b : Blk) (y0 : (List Vw)) (h : decLa_b0 b = some y0) : b = .lst false 38 [.int .i64, .int .i64, .bool, .bool, .sl, .int .i64, .int .i64, .int .i64, .int .i64, .int .i64, .int .i64, .int .i64, .int .i64, .int .i64, .bool] (y0) := rowsOf_ok h
def decLa_b1 : Blk → Option ((List Rq))
  | .lst false tt0 [.int .i64, .int .i64, .int .i64, .int .i64] r => if tt0 = 58 then some (r) else none
  | _ => none
theorem decLa_b1_ok (b : Blk) (y1 : (List Rq)) (h : decLa_b1 b = some y1) : b = .lst false 58 [.int .i64, .int .i64, .int .i64, .int .i64] (y1) := by
  unfold decLa_b1 at h
  split at h
  · obtain ⟨e0, h⟩ := ite_some0 h
    subst e0
    cases h
    rfl
  · cases h
def decLa : List V → List Blk → Option (PLa × ALa)
  | [v0, v1, v2], [b0, b1] => (decLa_v0 v0).bind fun x0 => (decLa_v1 v1).bind fun x1 => (decLa_v2 v2).bind fun x2 => (decLa_b0 b0).bind fun y0 => (decLa_b1 b1).bind fun y1 => some (⟨(y0), (y1), (x0), (x1)⟩, ⟨(x2)⟩)
  | _, _ => none
theorem decLa_ok (l : List V) (b : List Blk) (d : PLa × ALa) (h : decLa l b = some d) : l = vsLa d.1 d.2 ∧ b = bsLa d.1 d.2 := by
  unfold decLa at h
  split at h
  · obtain ⟨x0, hx0, h⟩ := Option.bind_eq_some_iff.1 h
    obtain ⟨x1, hx1, h⟩ := Option.bind_eq_some_iff.1 h
    obtain ⟨x2, hx2, h⟩ := Option.bind_eq_some_iff.1 h
    obtain ⟨y0, hy0, h⟩ := Option.bind_eq_some_iff.1 h
    obtain ⟨y1, hy1, h⟩ := Option.bind_eq_some_iff.1 h
    have ex0 := decLa_v0_ok _ _ hx0
    have ex1 := decLa_v1_ok _ _ hx1
    have ex2 := decLa_v2_ok _ _ hx2
    have ey0 := decLa_b0_ok _ _ hy0
    have ey1 := decLa_b1_ok _ _ hy1
    cases h
    subst ex0 ex1 ex2 ey0 ey1
    exact ⟨rfl, rfl⟩
  · cases h
noncomputable def rgLa : Nat := (firstReg lpLa).getD 0
theorem rgLa_is : firstReg lpLa = some rgLa := by kernel_rfl
def vAt (l : List Vw) (i : Int) : Vw := List.getD (α := Vw) l (0 + i.toNat) (Row.dflt [.int .i64, .int .i64, .bool, .bool, .sl, .int .i64, .int .i64, .int .i64, .int .i64, .int .i64, .int .i64, .int .i64, .int .i64, .int .i64, .bool])
def vxOf (v : Vw) : Vx := ⟨v.1, v.2.1, v.2.2.2.2.1.2.1, v.2.2.2.2.2.1, v.2.2.2.2.2.2.1, v.2.2.2.2.2.2.2.1, v.2.2.2.2.2.2.2.2.1, v.2.2.2.2.2.2.2.2.2.1, v.2.2.2.2.2.2.2.2.2.2.1, v.2.2.2.2.2.2.2.2.2.2.2.1, v.2.2.2.2.2.2.2.2.2.2.2.2.1, v.2.2.2.2.2.2.2.2.2.2.2.2.2.1, v.2.2.2.2.2.2.2.2.2.2.2.2.2.2⟩
def zOf (v : Vw) : Option Addr × Nat × Nat := (v.2.2.2.2.1.1, v.2.2.2.2.1.2.1, v.2.2.2.2.1.2.2)
noncomputable def lnV (v : Vw) : ByteArray := lineB (vxOf v) (rdy (podsW (zOf v))) v.2.2.1 v.2.2.2.1
theorem la_n (p : PLa) (a : ALa) : T.path [true, true, true, true, true, true, true, false] (rdLa p a) = some ([(decide (a.i < (p.n : Int)), true), (decide (0 ≤ a.i) && (decide (a.i < (p.n : Int)) && decide (0 + a.i.toNat < p.l.length)), true), (decide (0 + a.i.toNat < p.l.length), true), (lnB (vxOf (vAt p.l a.i)) (zOf (vAt p.l a.i)), true),
    (decide (0 ≤ a.i) && (decide (a.i < (p.n : Int)) && decide (0 + a.i.toNat < p.l.length)), true), (decide (0 + a.i.toNat < p.l.length), true), (lnB (vxOf (vAt p.l a.i)) (zOf (vAt p.l a.i)), true), (!((lnV (vAt p.l a.i)).toList == (lnV (vAt p.l a.i)).toList), false)], (.normal, FLa p ⟨IntKind.wrap .i64 (a.i + 1)⟩)) := by kernel_rfl
theorem la_x (p : PLa) (a : ALa) : T.path [false] (rdLa p a) = some ([(decide (a.i < (p.n : Int)), false)], (.exit 0, FLa p a)) := by kernel_rfl
structure okLa (p : PLa) (a : ALa) : Prop where
  n : p.n = p.l.length
  m : p.l.length ≤ 1000
  i0 : 0 ≤ a.i
  i1 : a.i ≤ (p.n : Int)
  ok : ∀ v ∈ p.l, lnB (vxOf v) (zOf v) = true
def goLa (p : PLa) (a : ALa) : Bool := decide (a.i < (p.n : Int))
def muLa (p : PLa) (a : ALa) : Nat := ((p.n : Int) - a.i).toNat
theorem vAt_mem {l : List Vw} {i : Int} (h0 : 0 ≤ i) (h1 : i < l.length) : vAt l i ∈ l := by
  have hn : 0 + i.toNat < l.length := by omega
  have : ∀ d : Vw, List.getD (α := Vw) l (0 + i.toNat) d ∈ l := fun d => by rw [List.getD_eq_getElem?_getD, List.getElem?_eq_getElem hn]; exact List.getElem_mem hn
  exact this _
theorem La_on {p : PLa} {a : ALa} (h : okLa p a) (hg : goLa p a = true) : (rdLa p a).eval = some (.normal, FLa p ⟨a.i + 1⟩) ∧ okLa p ⟨a.i + 1⟩ := by
  have hi : a.i < (p.n : Int) := of_decide_eq_true hg
  obtain ⟨h1, h2, h3, h4, h5⟩ := h
  have way := la_n p a
  have hln := h5 _ (vAt_mem (l := p.l) h3 (by omega))
  generalize vAt p.l a.i = v at way hln
  have hq : (!((lnV v).toList == (lnV v).toList)) = false := by rw [beq_self_eq_true]; rfl
  rw [wrap64 (n := a.i + 1) (by omega) (by omega)] at way
  have c1 : decide (0 + a.i.toNat < p.l.length) = true := decide_eq_true (by omega)
  have c2 : (decide (0 ≤ a.i) && (decide (a.i < (p.n : Int)) && decide (0 + a.i.toNat < p.l.length))) = true := by rw [c1, decide_eq_true h3, decide_eq_true hi]; rfl
  exact ⟨T.path_eval way ⟨hg, c2, c1, hln, c2, c1, hln, hq, trivial⟩, h1, h2, by show 0 ≤ a.i + 1; omega, by show a.i + 1 ≤ (p.n : Int); omega, h5⟩
theorem stepLa (p : PLa) (a : ALa) (h : okLa p a) (hg : goLa p a = true) : ∃ b, stepC okLa rdLa FLa muLa p a b := by
  obtain ⟨r1, r2⟩ := La_on h hg
  have hi : a.i < (p.n : Int) := of_decide_eq_true hg
  exact ⟨_, r1, r2, by show ((p.n : Int) - (a.i + 1)).toNat < ((p.n : Int) - a.i).toNat; omega⟩
theorem exLa (p : PLa) (a : ALa) (h : okLa p a) (hg : goLa p a = false) : (rdLa p a).eval = some (.exit 0, FLa p a) := T.path_eval (la_x p a) ⟨hg, trivial⟩
noncomputable def famLa : LSpec := famC [0,1,5] SLa 1000 1002 82 decLa okLa goLa rdLa FLa muLa (.exit 0)
theorem lpLa_ok : LoopOk A1 lpLa famLa := famC_ok (vs := vsLa) (bs := bsLa) A1_ok mixed (noLoops_ok _) decLa_ok (by simp) (fun _ _ => rfl) (fun _ _ => rfl) stepLa exLa
theorem La_end {p : PLa} (h : okLa p ⟨0⟩) : invC okLa p ⟨0⟩ = true := invC_is h
noncomputable def raX : Eng.Spec := execS A1 (byReg [(rgLa, famLa)]) 4
theorem raX_ok : SpecOk Tryd.prog 4 raX := execS_loops A1_ok mixed Tryd.func4 (by kernel_rfl) (by kernel_rfl) (one_lp (c := lpLa) (by kernel_rfl) rgLa_is lpLa_ok)
end Go.Proofs.YtndcealgackgiaaDoor.Rep

