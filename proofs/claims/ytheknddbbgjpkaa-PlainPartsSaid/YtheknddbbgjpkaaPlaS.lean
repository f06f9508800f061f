/- Layer 6: plain's small functions, the heads of its loops. -/
import Derived.Test.YtheknddbbgjpkaaRdB
namespace Go.Proofs.Ytheknddbbgjpkaa.Pla
open Go.Eng Go.RowKit Mil Rin
set_option linter.unusedVariables false
set_option linter.unusedSimpArgs false
noncomputable def putP0 : Eng.Spec := execS R0 noLoops 98
theorem putP0_ok : SpecOk Try.prog 98 putP0 := execS_plain R0_ok mixed Try.func98 (by kernel_rfl) (by kernel_rfl)
def agR (t v : Int) : V := .agg [Eng.iv t, Eng.iv v]
def putC : Eng.Spec
  | [.agg [.s (.int .i64 t), .s (.int .i64 v)]] => .ite none (badA t v) (.ret (.iface 167 (.agg []))) (.ret (.iface 148 (agR t v)))
  | _ => .fail
theorem putC_run (t v : Int) : T.anon (putP0 [agR t v]) = .ite none (badA t v) (.ret (.iface 167 (.agg []))) (.ret (.iface 148 (agR t v))) := by kernel_rfl
noncomputable def takD0 : Eng.Spec := execS R0 noLoops 100
theorem takD0_ok : SpecOk Try.prog 100 takD0 := execS_plain R0_ok mixed Try.func100 (by kernel_rfl) (by kernel_rfl)
noncomputable def P1 : Cfg := ⟨Try.prog, lookG [(98, .val putP0)], [], 0⟩
theorem P1_ok : P1.Ok := Cfg.ok ⟨putP0_ok, trivial⟩ trivial
noncomputable def P2 : Cfg := ⟨Try.prog, lookG [(100, .val takD0)], [], 0⟩
theorem P2_ok : P2.Ok := Cfg.ok ⟨takD0_ok, trivial⟩ trivial
abbrev KR2 : List K := [.int .i64, .int .i64]
noncomputable def lpNw : Code := loopAt Try.prog 61 0
structure PNw where (k : Nat) (c : Int) (l : List (Int × Int))
structure ANw where (n : Int) (i : Int)
abbrev SNw : List (Nat × Src) := [(0, .same)]
def vsNw (p : PNw) (a : ANw) : List V := [iv a.n, .sub 0 2 0 p.k, iv p.c, iv a.i]
def bsNw (p : PNw) (a : ANw) : List Blk := [.lst false 86 [.int .i64, .int .i64] p.l]
noncomputable def FNw (p : PNw) (a : ANw) : St := mkSt [3,8,9,10] (keysR SNw) 100 27 (vsNw p a) (bsNw p a)
noncomputable def rdNw (p : PNw) (a : ANw) : T (Ex × St) := T.anon (roundN P1 noLoops lpNw [3,8,9,10] SNw 100 100 (mkSt [3,8,9,10] (keysR SNw) 100 27 (vsNw p a) (bsNw p a)))
def decNw : List V → List Blk → Option (PNw × ANw)
  | [.s (.int .i64 n), .sub 0 2 0 k, .s (.int .i64 c), .s (.int .i64 i)], [.lst false tt0 [.int .i64, .int .i64] l] =>
    if tt0 = 86 then some (⟨k, c, l⟩, ⟨n, i⟩) else none
  | _, _ => none
theorem decNw_ok (l : List V) (b : List Blk) (d : PNw × ANw) (h : decNw l b = some d) : l = vsNw d.1 d.2 ∧ b = bsNw d.1 d.2 := by
  unfold decNw at h
  split at h
  · obtain ⟨e0, h⟩ := ite_some0 h
    subst e0
    cases h
    exact ⟨rfl, rfl⟩
  · cases h
noncomputable def rgNw : Nat := (firstReg lpNw).getD 0
theorem rgNw_is : firstReg lpNw = some rgNw := by kernel_rfl
noncomputable def lpSy : Code := loopAt Try.prog 63 0
structure PSy where (k : Nat) (c : Int) (l : List (Int × Int)) (v : Int)
structure ASy where (i : Int)
abbrev SSy : List (Nat × Src) := [(0, .same)]
def vsSy (p : PSy) (a : ASy) : List V := [iv p.v, .sub 0 2 0 p.k, iv p.c, iv a.i]
def bsSy (p : PSy) (a : ASy) : List Blk := [.lst false 86 [.int .i64, .int .i64] p.l]
noncomputable def FSy (p : PSy) (a : ASy) : St := mkSt [1,9,10,11] (keysR SSy) 100 29 (vsSy p a) (bsSy p a)
noncomputable def rdSy (p : PSy) (a : ASy) : T (Ex × St) := T.anon (roundN P1 noLoops lpSy [1,9,10,11] SSy 100 100 (mkSt [1,9,10,11] (keysR SSy) 100 29 (vsSy p a) (bsSy p a)))
def decSy : List V → List Blk → Option (PSy × ASy)
  | [.s (.int .i64 v), .sub 0 2 0 k, .s (.int .i64 c), .s (.int .i64 i)], [.lst false tt0 [.int .i64, .int .i64] l] =>
    if tt0 = 86 then some (⟨k, c, l, v⟩, ⟨i⟩) else none
  | _, _ => none
theorem decSy_ok (l : List V) (b : List Blk) (d : PSy × ASy) (h : decSy l b = some d) : l = vsSy d.1 d.2 ∧ b = bsSy d.1 d.2 := by
  unfold decSy at h
  split at h
  · obtain ⟨e0, h⟩ := ite_some0 h
    subst e0
    cases h
    exact ⟨rfl, rfl⟩
  · cases h
noncomputable def rgSy : Nat := (firstReg lpSy).getD 0
theorem rgSy_is : firstReg lpSy = some rgSy := by kernel_rfl
noncomputable def lpNd : Code := loopAt Try.prog 62 0
structure PNd where (k : Nat) (l : List (Int × Int))
structure ANd where (n : Int) (i : Int)
abbrev SNd : List (Nat × Src) := [(0, .same)]
def vsNd (p : PNd) (a : ANd) : List V := [.sub 0 2 0 p.k, iv a.n, iv a.i]
def bsNd (p : PNd) (a : ANd) : List Blk := [.lst false 86 [.int .i64, .int .i64] p.l]
noncomputable def FNd (p : PNd) (a : ANd) : St := mkSt [0,3,4] (keysR SNd) 100 24 (vsNd p a) (bsNd p a)
noncomputable def rdNd (p : PNd) (a : ANd) : T (Ex × St) := T.anon (roundN P2 noLoops lpNd [0,3,4] SNd 100 100 (mkSt [0,3,4] (keysR SNd) 100 24 (vsNd p a) (bsNd p a)))
def decNd : List V → List Blk → Option (PNd × ANd)
  | [.sub 0 2 0 k, .s (.int .i64 n), .s (.int .i64 i)], [.lst false tt0 [.int .i64, .int .i64] l] =>
    if tt0 = 86 then some (⟨k, l⟩, ⟨n, i⟩) else none
  | _, _ => none
theorem decNd_ok (l : List V) (b : List Blk) (d : PNd × ANd) (h : decNd l b = some d) : l = vsNd d.1 d.2 ∧ b = bsNd d.1 d.2 := by
  unfold decNd at h
  split at h
  · obtain ⟨e0, h⟩ := ite_some0 h
    subst e0
    cases h
    exact ⟨rfl, rfl⟩
  · cases h
noncomputable def rgNd : Nat := (firstReg lpNd).getD 0
theorem rgNd_is : firstReg lpNd = some rgNd := by kernel_rfl
noncomputable def lpSd : Code := loopAt Try.prog 64 0
structure PSd where (k : Nat) (l : List (Int × Int)) (v : Int)
structure ASd where (i : Int)
abbrev SSd : List (Nat × Src) := [(0, .same)]
def vsSd (p : PSd) (a : ASd) : List V := [.sub 0 2 0 p.k, iv p.v, iv a.i]
def bsSd (p : PSd) (a : ASd) : List Blk := [.lst false 86 [.int .i64, .int .i64] p.l]
noncomputable def FSd (p : PSd) (a : ASd) : St := mkSt [0,1,5] (keysR SSd) 100 26 (vsSd p a) (bsSd p a)
noncomputable def rdSd (p : PSd) (a : ASd) : T (Ex × St) := T.anon (roundN P2 noLoops lpSd [0,1,5] SSd 100 100 (mkSt [0,1,5] (keysR SSd) 100 26 (vsSd p a) (bsSd p a)))
def decSd : List V → List Blk → Option (PSd × ASd)
  | [.sub 0 2 0 k, .s (.int .i64 v), .s (.int .i64 i)], [.lst false tt0 [.int .i64, .int .i64] l] =>
    if tt0 = 86 then some (⟨k, l, v⟩, ⟨i⟩) else none
  | _, _ => none
theorem decSd_ok (l : List V) (b : List Blk) (d : PSd × ASd) (h : decSd l b = some d) : l = vsSd d.1 d.2 ∧ b = bsSd d.1 d.2 := by
  unfold decSd at h
  split at h
  · obtain ⟨e0, h⟩ := ite_some0 h
    subst e0
    cases h
    exact ⟨rfl, rfl⟩
  · cases h
noncomputable def rgSd : Nat := (firstReg lpSd).getD 0
theorem rgSd_is : firstReg lpSd = some rgSd := by kernel_rfl
def nxV (n : Int) (x : TV) : Int := bif badA x.1 x.2 then n else mxR n x.1
def newV (l : List TV) : Int := l.foldl nxV (-1)
theorem newV_app (l : List TV) (x : TV) : newV (l ++ [x]) = nxV (newV l) x := by unfold newV; rw [List.foldl_append]; rfl
theorem newV_bd : ∀ l : List TV, -1 ≤ newV l ∧ newV l ≤ 1099511627776 := by
  have : ∀ (l : List TV) (n : Int), -1 ≤ n → n ≤ 1099511627776 → -1 ≤ l.foldl nxV n ∧ l.foldl nxV n ≤ 1099511627776 := by
    intro l
    induction l with
    | nil => intro n h1 h2; exact ⟨h1, h2⟩
    | cons x r ih =>
      intro n h1 h2
      rw [List.foldl_cons]
      have : -1 ≤ nxV n x ∧ nxV n x ≤ 1099511627776 := by
        unfold nxV
        cases hb : badA x.1 x.2 with
        | true => exact ⟨h1, h2⟩
        | false =>
          obtain ⟨t0, t1, _⟩ := badA_false.1 hb
          simp only [cond_false]
          unfold mxR; split <;> omega
      exact ih _ this.1 this.2
  exact fun l => this l (-1) (by omega) (by omega)
theorem wayNw (p : PNw) (a : ANw) (e : Bool) : T.path [true, true, true, e] (rdNw p a) = some ([(decide (a.i < p.c), true), (idR p.l p.k a.i, true), (ldR p.l a.i, true), (badA (xF p.l a.i).1 (xF p.l a.i).2, e)], (.normal, FNw p ⟨bif e then a.n else mxR a.n (xF p.l a.i).1, IntKind.wrap .i64 (a.i + 1)⟩)) := by cases e <;> kernel_rfl
theorem wayNwx (p : PNw) (a : ANw) : T.path [false] (rdNw p a) = some ([(decide (a.i < p.c), false)], (.exit 0, FNw p a)) := by kernel_rfl
structure okNw (p : PNw) (a : ANw) : Prop where
  k : p.k = p.l.length
  c : p.c = p.k
  ln : p.k ≤ 100000
  i0 : 0 ≤ a.i
  i1 : a.i ≤ p.k
  n : a.n = newV (p.l.take a.i.toNat)
def goNw (p : PNw) (a : ANw) : Bool := decide (a.i < p.c)
def muNw (p : PNw) (a : ANw) : Nat := (p.k - a.i).toNat
theorem stepNw (p : PNw) (a : ANw) (h : okNw p a) (hg : goNw p a = true) : ∃ b, stepC okNw rdNw FNw muNw p a b := by
  obtain ⟨hk, hc, hl, i0, i1, hn⟩ := h
  have hi : a.i < p.c := of_decide_eq_true hg
  have hw : IntKind.wrap .i64 (a.i + 1) = a.i + 1 := wrap64_in (by omega) (by omega)
  obtain ⟨x1, x2⟩ := idR_is (g := p.l) (k := p.k) (i := a.i) hk i0 (by omega)
  have hlt : a.i.toNat < p.l.length := by omega
  have hx := xF_at i0 hlt
  have tk := take_next i0 hlt
  refine ⟨_, T.path_eval (wayNw p a (badA (xF p.l a.i).1 (xF p.l a.i).2)) ⟨hg, x1, x2, rfl, trivial⟩, ⟨hk, hc, hl, ?_, ?_, ?_⟩, ?_⟩
  · show 0 ≤ IntKind.wrap .i64 (a.i + 1); rw [hw]; omega
  · show IntKind.wrap .i64 (a.i + 1) ≤ p.k; rw [hw]; omega
  · show (bif badA (xF p.l a.i).1 (xF p.l a.i).2 then a.n else mxR a.n (xF p.l a.i).1) = newV (p.l.take (IntKind.wrap .i64 (a.i + 1)).toNat)
    rw [hw, tk, newV_app, ← hn, hx]; rfl
  · show (p.k - IntKind.wrap .i64 (a.i + 1)).toNat < (p.k - a.i).toNat
    rw [hw]; omega
theorem exNw (p : PNw) (a : ANw) (h : okNw p a) (hg : goNw p a = false) : (rdNw p a).eval = some (.exit 0, FNw p a) := T.path_eval (wayNwx p a) ⟨hg, trivial⟩
noncomputable def famNw : LSpec := famC [3,8,9,10] SNw 100 100 27 decNw okNw goNw rdNw FNw muNw (.exit 0)
theorem lpNw_ok : LoopOk P1 lpNw famNw := famC_ok (vs := vsNw) (bs := bsNw) P1_ok mixed (noLoops_ok _) decNw_ok (by simp) (fun _ _ => rfl) (fun _ _ => rfl) stepNw exNw
noncomputable def newE : Eng.Spec := execS P1 (byReg [(rgNw, famNw)]) 61
theorem newE_ok : SpecOk Try.prog 61 newE := execS_loops P1_ok mixed Try.func61 (by kernel_rfl) (by kernel_rfl) (one_lp (by kernel_rfl) rgNw_is lpNw_ok)
noncomputable def eNw (l : List TV) : ANw := endW (nxtC okNw goNw rdNw FNw muNw ⟨l.length, (l.length : Int), l⟩) ⟨-1, 0⟩
theorem new_way (l : List TV) : T.path [true] (T.anon (newE [.orow 86 KR2 l])) = some ([(invC okNw ⟨l.length, (l.length : Int), l⟩ ⟨-1, 0⟩, true)], Eng.iv (eNw l).n) := by kernel_rfl
def newC : Eng.Spec
  | [.orow t [.int .i64, .int .i64] l] => if t = 86 then .ite none (decide (l.length ≤ 100000)) (.ret (Eng.iv (newV l))) .fail else .fail
  | _ => .fail
theorem new_run (l : List TV) (hl : l.length ≤ 100000) : (newE [.orow 86 KR2 l]).eval = some (Eng.iv (newV l)) := by
  rw [← T.eval_anon (t := newE _)]
  have h0 : okNw ⟨l.length, (l.length : Int), l⟩ ⟨-1, 0⟩ := ⟨rfl, rfl, hl, Int.le_refl _, by show (0 : Int) ≤ l.length; omega, rfl⟩
  obtain ⟨k1, k2⟩ := endC stepNw h0
  refine (T.path_eval (new_way l) ⟨invC_is h0, trivial⟩).trans ?_
  have k1 : okNw ⟨l.length, (l.length : Int), l⟩ (eNw l) := k1
  have q1 : (eNw l).i ≤ (l.length : Int) := k1.i1
  have q2 : ¬ (eNw l).i < (l.length : Int) := of_decide_eq_false k2
  have q3 : (eNw l).i.toNat = l.length := by omega
  have q4 : (eNw l).n = newV (l.take (eNw l).i.toNat) := k1.n
  rw [q4, q3, List.take_length]
theorem newC_ok : SpecOk Try.prog 61 newC := newE_ok.of_eval fun args v h => by
  unfold newC at h
  split at h
  · split at h
    · rename_i ht
      subst ht
      obtain ⟨hc, h⟩ := ite_some h
      obtain rfl := Option.some.inj h
      exact new_run _ (of_decide_eq_true hc)
    · cases h
  · cases h
end Go.Proofs.Ytheknddbbgjpkaa.Pla
