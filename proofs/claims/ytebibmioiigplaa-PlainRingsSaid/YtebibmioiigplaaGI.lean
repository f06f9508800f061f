import Derived.Test.YtebibmioiigplaaGH
/- Layer 6: plain's small functions, the heads of its loops. -/
namespace Go.Proofs.Ytebibmioiigplaa.Pla
open Go.Eng Go.RowKit Mil Rin
set_option linter.unusedVariables false
set_option linter.unusedSimpArgs false
noncomputable def putP0 : Eng.Spec := execS R0 noLoops 80
theorem putP0_ok : SpecOk Try.prog 80 putP0 := execS_plain R0_ok mixed Try.func80 (by kernel_rfl) (by kernel_rfl)
def agR (t v : Int) : V := .agg [Eng.iv t, Eng.iv v]
def putC : Eng.Spec
  | [.agg [.s (.int .i64 t), .s (.int .i64 v)]] => .ite none (badA t v) (.ret (.iface 181 (.agg []))) (.ret (.iface 114 (agR t v)))
  | _ => .fail
theorem putC_run (t v : Int) : T.anon (putP0 [agR t v]) = .ite none (badA t v) (.ret (.iface 181 (.agg []))) (.ret (.iface 114 (agR t v))) := by kernel_rfl
noncomputable def takD0 : Eng.Spec := execS R0 noLoops 85
theorem takD0_ok : SpecOk Try.prog 85 takD0 := execS_plain R0_ok mixed Try.func85 (by kernel_rfl) (by kernel_rfl)
noncomputable def P1 : Cfg := ⟨Try.prog, lookG [(80, .val putP0)], [], 0⟩
theorem P1_ok : P1.Ok := Cfg.ok ⟨putP0_ok, trivial⟩ trivial
noncomputable def P2 : Cfg := ⟨Try.prog, lookG [(85, .val takD0)], [], 0⟩
theorem P2_ok : P2.Ok := Cfg.ok ⟨takD0_ok, trivial⟩ trivial
abbrev KR2 : List K := [.int .i64, .int .i64]
noncomputable def lpNw : Code := loopAt Try.prog 26 0
structure PNw where (k : Nat) (c : Int) (l : List (Int × Int))
structure ANw where (n : Int) (i : Int)
abbrev SNw : List (Nat × Src) := [(0, .same)]
def vsNw (p : PNw) (a : ANw) : List V := [iv a.n, .sub 0 2 0 p.k, iv p.c, iv a.i]
def bsNw (p : PNw) (a : ANw) : List Blk := [.lst false 35 [.int .i64, .int .i64] p.l]
noncomputable def FNw (p : PNw) (a : ANw) : St := mkSt [3,8,9,10] (keysR SNw) 100 27 (vsNw p a) (bsNw p a)
noncomputable def rdNw (p : PNw) (a : ANw) : T (Ex × St) := T.anon (roundN P1 noLoops lpNw [3,8,9,10] SNw 100 100 (mkSt [3,8,9,10] (keysR SNw) 100 27 (vsNw p a) (bsNw p a)))
def decNw : List V → List Blk → Option (PNw × ANw)
  | [.s (.int .i64 n), .sub 0 2 0 k, .s (.int .i64 c), .s (.int .i64 i)], [.lst false tt0 [.int .i64, .int .i64] l] =>
    if tt0 = 35 then some (⟨k, c, l⟩, ⟨n, i⟩) else none
  | _, _ => none
theorem decNw_ok (l : List V) (b : List Blk) (d : PNw × ANw) (h : decNw l b = some d) : l = vsNw d.1 d.2 ∧ b = bsNw d.1 d.2 := by
  unfold decNw at h
  split at h
  · obtain ⟨e0, h⟩ := ite_some0 h
    subst e0
    cases h
    exact ⟨rfl, rfl⟩
  · cases h
noncomputable def rgNw : Nat := (firstReg lpNw).getD 0
theorem rgNw_is : firstReg lpNw = some rgNw := by kernel_rfl
noncomputable def lpSy : Code := loopAt Try.prog 28 0
structure PSy where (k : Nat) (c : Int) (l : List (Int × Int)) (v : Int)
structure ASy where (i : Int)
abbrev SSy : List (Nat × Src) := [(0, .same)]
def vsSy (p : PSy) (a : ASy) : List V := [iv p.v, .sub 0 2 0 p.k, iv p.c, iv a.i]
def bsSy (p : PSy) (a : ASy) : List Blk := [.lst false 35 [.int .i64, .int .i64] p.l]
noncomputable def FSy (p : PSy) (a : ASy) : St := mkSt [1,9,10,11] (keysR SSy) 100 29 (vsSy p a) (bsSy p a)
noncomputable def rdSy (p : PSy) (a : ASy) : T (Ex × St) := T.anon (roundN P1 noLoops lpSy [1,9,10,11] SSy 100 100 (mkSt [1,9,10,11] (keysR SSy) 100 29 (vsSy p a) (bsSy p a)))
def decSy : List V → List Blk → Option (PSy × ASy)
  | [.s (.int .i64 v), .sub 0 2 0 k, .s (.int .i64 c), .s (.int .i64 i)], [.lst false tt0 [.int .i64, .int .i64] l] =>
    if tt0 = 35 then some (⟨k, c, l, v⟩, ⟨i⟩) else none
  | _, _ => none
theorem decSy_ok (l : List V) (b : List Blk) (d : PSy × ASy) (h : decSy l b = some d) : l = vsSy d.1 d.2 ∧ b = bsSy d.1 d.2 := by
  unfold decSy at h
  split at h
  · obtain ⟨e0, h⟩ := ite_some0 h
    subst e0
    cases h
    exact ⟨rfl, rfl⟩
  · cases h
noncomputable def rgSy : Nat := (firstReg lpSy).getD 0
theorem rgSy_is : firstReg lpSy = some rgSy := by kernel_rfl
noncomputable def lpNd : Code := loopAt Try.prog 27 0
structure PNd where (k : Nat) (l : List (Int × Int))
structure ANd where (n : Int) (i : Int)
abbrev SNd : List (Nat × Src) := [(0, .same)]
def vsNd (p : PNd) (a : ANd) : List V := [.sub 0 2 0 p.k, iv a.n, iv a.i]
def bsNd (p : PNd) (a : ANd) : List Blk := [.lst false 35 [.int .i64, .int .i64] p.l]
noncomputable def FNd (p : PNd) (a : ANd) : St := mkSt [0,3,4] (keysR SNd) 100 24 (vsNd p a) (bsNd p a)
noncomputable def rdNd (p : PNd) (a : ANd) : T (Ex × St) := T.anon (roundN P2 noLoops lpNd [0,3,4] SNd 100 100 (mkSt [0,3,4] (keysR SNd) 100 24 (vsNd p a) (bsNd p a)))
def decNd : List V → List Blk → Option (PNd × ANd)
  | [.sub 0 2 0 k, .s (.int .i64 n), .s (.int .i64 i)], [.lst false tt0 [.int .i64, .int .i64] l] =>
    if tt0 = 35 then some (⟨k, l⟩, ⟨n, i⟩) else none
  | _, _ => none
theorem decNd_ok (l : List V) (b : List Blk) (d : PNd × ANd) (h : decNd l b = some d) : l = vsNd d.1 d.2 ∧ b = bsNd d.1 d.2 := by
  unfold decNd at h
  split at h
  · obtain ⟨e0, h⟩ := ite_some0 h
    subst e0
    cases h
    exact ⟨rfl, rfl⟩
  · cases h
noncomputable def rgNd : Nat := (firstReg lpNd).getD 0
theorem rgNd_is : firstReg lpNd = some rgNd := by kernel_rfl
noncomputable def lpSd : Code := loopAt Try.prog 29 0
structure PSd where (k : Nat) (l : List (Int × Int)) (v : Int)
structure ASd where (i : Int)
abbrev SSd : List (Nat × Src) := [(0, .same)]
def vsSd (p : PSd) (a : ASd) : List V := [.sub 0 2 0 p.k, iv p.v, iv a.i]
def bsSd (p : PSd) (a : ASd) : List Blk := [.lst false 35 [.int .i64, .int .i64] p.l]
noncomputable def FSd (p : PSd) (a : ASd) : St := mkSt [0,1,5] (keysR SSd) 100 26 (vsSd p a) (bsSd p a)
noncomputable def rdSd (p : PSd) (a : ASd) : T (Ex × St) := T.anon (roundN P2 noLoops lpSd [0,1,5] SSd 100 100 (mkSt [0,1,5] (keysR SSd) 100 26 (vsSd p a) (bsSd p a)))
def decSd : List V → List Blk → Option (PSd × ASd)
  | [.sub 0 2 0 k, .s (.int .i64 v), .s (.int .i64 i)], [.lst false tt0 [.int .i64, .int .i64] l] =>
    if tt0 = 35 then some (⟨k, l, v⟩, ⟨i⟩) else none
  | _, _ => none
theorem decSd_ok (l : List V) (b : List Blk) (d : PSd × ASd) (h : decSd l b = some d) : l = vsSd d.1 d.2 ∧ b = bsSd d.1 d.2 := by
  unfold decSd at h
  split at h
  · obtain ⟨e0, h⟩ := ite_some0 h
    subst e0
    cases h
    exact ⟨rfl, rfl⟩
  · cases h
noncomputable def rgSd : Nat := (firstReg lpSd).getD 0
theorem rgSd_is : firstReg lpSd = some rgSd := by kernel_rfl
def nxV (n : Int) (x : TV) : Int := bif badA x.1 x.2 then n else mxR n x.1
def newV (l : List TV) : Int := l.foldl nxV (-1)
theorem newV_app (l : List TV) (x : TV) : newV (l ++ [x]) = nxV (newV l) x := by unfold newV; rw [List.foldl_append]; rfl
theorem newV_bd : ∀ l : List TV, -1 ≤ newV l ∧ newV l ≤ 1099511627776 := by
  have : ∀ (l : List TV) (n : Int), -1 ≤ n → n ≤ 1099511627776 → -1 ≤ l.foldl nxV n ∧ l.foldl nxV n ≤ 1099511627776 := by
    intro l
    induction l with
    | nil => intro n h1 h2; exact ⟨h1, h2⟩
    | cons x r ih =>
      intro n h1 h2
      rw [List.foldl_cons]
      have : -1 ≤ nxV n x ∧ nxV n x ≤ 1099511627776 := by
        unfold nxV
        cases hb : badA x.1 x.2 with
        | true => exact ⟨h1, h2⟩
        | false =>
          obtain ⟨t0, t1, _⟩ := badA_false.1 hb
          simp only [cond_false]
          unfold mxR; split <;> omega
      exact ih _ this.1 this.2
  exact fun l => this l (-1) (by omega) (by omega)
theorem wayNw (p : PNw) (a : ANw) (e : Bool) : T.path [true, true, true, e] (rdNw p a) = some ([(decide (a.i < p.c), true), (idR p.l p.k a.i, true), (ldR p.l a.i, true), (badA (xF p.l a.i).1 (xF p.l a.i).2, e)], (.normal, FNw p ⟨bif e then a.n else mxR a.n (xF p.l a.i).1, IntKind.wrap .i64 (a.i + 1)⟩)) := by cases e <;> kernel_rfl
theorem wayNwx (p : PNw) (a : ANw) : T.path [false] (rdNw p a) = some ([(decide (a.i < p.c), false)], (.exit 0, FNw p a)) := by kernel_rfl
structure okNw (p : PNw) (a : ANw) : Prop where
  k : p.k = p.l.length
  c : p.c = p.k
  ln : p.k ≤ 100000
  i0 : 0 ≤ a.i
  i1 : a.i ≤ p.k
  n : a.n = newV (p.l.take a.i.toNat)
def goNw (p : PNw) (a : ANw) : Bool := decide (a.i < p.c)
def muNw (p : PNw) (a : ANw) : Nat := (p.k - a.i).toNat
theorem stepNw (p : PNw) (a : ANw) (h : okNw p a) (hg : goNw p a = true) : ∃ b, stepC okNw rdNw FNw muNw p a b := by
  obtain ⟨hk, hc, hl, i0, i1, hn⟩ := h
  have hi : a.i < p.c := of_decide_eq_true hg
  have hw : IntKind.wrap .i64 (a.i + 1) = a.i + 1 := wrap64_in (by omega) (by omega)
  obtain ⟨x1, x2⟩ := idR_is (g := p.l) (k := p.k) (i := a.i) hk i0 (by omega)
  have hlt : a.i.toNat < p.l.length := by omega
  have hx := xF_at i0 hlt
  have tk := take_next i0 hlt
  refine ⟨_, T.path_eval (wayNw p a (badA (xF p.l a.i).1 (xF p.l a.i).2)) ⟨hg, x1, x2, rfl, trivial⟩, ⟨hk, hc, hl, ?_, ?_, ?_⟩, ?_⟩
  · show 0 ≤ IntKind.wrap .i64 (a.i + 1); rw [hw]; omega
  · show IntKind.wrap .i64 (a.i + 1) ≤ p.k; rw [hw]; omega
  · show (bif badA (xF p.l a.i).1 (xF p.l a.i).2 then a.n else mxR a.n (xF p.l a.i).1) = newV (p.l.take (IntKind.wrap .i64 (a.i + 1)).toNat)
    rw [hw, tk, newV_app, ← hn, hx]; rfl
  · show (p.k - IntKind.wrap .i64 (a.i + 1)).toNat < (p.k - a.i).toNat
    rw [hw]; omega
theorem exNw (p : PNw) (a : ANw) (h : okNw p a) (hg : goNw p a = false) : (rdNw p a).eval = some (.exit 0, FNw p a) := T.path_eval (wayNwx p a) ⟨hg, trivial⟩
noncomputable def famNw : LSpec := famC [3,8,9,10] SNw 100 100 27 decNw okNw goNw rdNw FNw muNw (.exit 0)
theorem lpNw_ok : LoopOk P1 lpNw famNw := famC_ok (vs := vsNw) (bs := bsNw) P1_ok mixed (noLoops_ok _) decNw_ok (by simp) (fun _ _ => rfl) (fun _ _ => rfl) stepNw exNw
noncomputable def newE : Eng.Spec := execS P1 (byReg [(rgNw, famNw)]) 26
theorem newE_ok : SpecOk Try.prog 26 newE := execS_loops P1_ok mixed Try.func26 (by kernel_rfl) (by kernel_rfl) (one_lp (by kernel_rfl) rgNw_is lpNw_ok)
noncomputable def eNw (l : List TV) : ANw := endW (nxtC okNw goNw rdNw FNw muNw ⟨l.length, (l.length : Int), l⟩) ⟨-1, 0⟩
theorem new_way (l : List TV) : T.path [true] (T.anon (newE [.orow 35 KR2 l])) = some ([(invC okNw ⟨l.length, (l.length : Int), l⟩ ⟨-1, 0⟩, true)], Eng.iv (eNw l).n) := by kernel_rfl
def newC : Eng.Spec
  | [.orow t [.int .i64, .int .i64] l] => if t = 35 then .ite none (decide (l.length ≤ 100000)) (.ret (Eng.iv (newV l))) .fail else .fail
  | _ => .fail
theorem new_run (l : List TV) (hl : l.length ≤ 100000) : (newE [.orow 35 KR2 l]).eval = some (Eng.iv (newV l)) := by
  rw [← T.eval_anon (t := newE _)]
  have h0 : okNw ⟨l.length, (l.length : Int), l⟩ ⟨-1, 0⟩ := ⟨rfl, rfl, hl, Int.le_refl _, by show (0 : Int) ≤ l.length; omega, rfl⟩
  obtain ⟨k1, k2⟩ := endC stepNw h0
  refine (T.path_eval (new_way l) ⟨invC_is h0, trivial⟩).trans ?_
  have k1 : okNw ⟨l.length, (l.length : Int), l⟩ (eNw l) := k1
  have q1 : (eNw l).i ≤ (l.length : Int) := k1.i1
  have q2 : ¬ (eNw l).i < (l.length : Int) := of_decide_eq_false k2
  have q3 : (eNw l).i.toNat = l.length := by omega
  have q4 : (eNw l).n = newV (l.take (eNw l).i.toNat) := k1.n
  rw [q4, q3, List.take_length]
theorem newC_ok : SpecOk Try.prog 26 newC := newE_ok.of_eval fun args v h => by
  unfold newC at h
  split at h
  · split at h
    · rename_i ht
      subst ht
      obtain ⟨hc, h⟩ := ite_some h
      obtain rfl := Option.some.inj h
      exact new_run _ (of_decide_eq_true hc)
    · cases h
  · cases h
end Go.Proofs.Ytebibmioiigplaa.Pla

/- Layer 6: plain.Sum: its loop. -/
namespace Go.Proofs.Ytebibmioiigplaa.Pla
open Go.Eng Go.RowKit Mil Rin
set_option linter.unusedVariables false
set_option linter.unusedSimpArgs false
noncomputable def P3 : Cfg := ⟨Try.prog, lookG [(80, .val putP0), (26, .val newC), (81, .val Sta.addS)], [], 0⟩
theorem P3_ok : P3.Ok := Cfg.ok ⟨putP0_ok, newC_ok, Sta.add_ok, trivial⟩ trivial
noncomputable def lpSu : Code := loopAt Try.prog 23 0
structure PSu where (k : Nat) (c : Int) (l : List (Int × Int)) (g : Int) (r : Int) (ak : Int) (la : Int)
structure ASu where (s : Int) (n : Int) (i : Int)
abbrev SSu : List (Nat × Src) := [(0, .same)]
def vsSu (p : PSu) (a : ASu) : List V := [iv p.g, iv p.r, iv p.ak, iv p.la, iv a.s, iv a.n, .sub 0 2 0 p.k, iv p.c, iv a.i]
def bsSu (p : PSu) (a : ASu) : List Blk := [.lst false 35 [.int .i64, .int .i64] p.l]
noncomputable def FSu (p : PSu) (a : ASu) : St := mkSt [10,11,12,13,14,15,54,55,56] (keysR SSu) 1000 101 (vsSu p a) (bsSu p a)
noncomputable def rdSu (p : PSu) (a : ASu) : T (Ex × St) := T.anon (roundN P3 noLoops lpSu [10,11,12,13,14,15,54,55,56] SSu 1000 1000 (mkSt [10,11,12,13,14,15,54,55,56] (keysR SSu) 1000 101 (vsSu p a) (bsSu p a)))
def decSu : List V → List Blk → Option (PSu × ASu)
  | [.s (.int .i64 g), .s (.int .i64 r), .s (.int .i64 ak), .s (.int .i64 la), .s (.int .i64 s), .s (.int .i64 n), .sub 0 2 0 k, .s (.int .i64 c), .s (.int .i64 i)], [.lst false tt0 [.int .i64, .int .i64] l] =>
    if tt0 = 35 then some (⟨k, c, l, g, r, ak, la⟩, ⟨s, n, i⟩) else none
  | _, _ => none
theorem decSu_ok (l : List V) (b : List Blk) (d : PSu × ASu) (h : decSu l b = some d) : l = vsSu d.1 d.2 ∧ b = bsSu d.1 d.2 := by
  unfold decSu at h
  split at h
  · obtain ⟨e0, h⟩ := ite_some0 h
    subst e0
    cases h
    exact ⟨rfl, rfl⟩
  · cases h
noncomputable def rgSu : Nat := (firstReg lpSu).getD 0
theorem rgSu_is : firstReg lpSu = some rgSu := by kernel_rfl
def wD1 (p : PSu) (a : ASu) : Int := IntKind.wrap .i64 (Int.tdiv (xF p.l a.i).1 p.g)
def inP (p : PSu) (a : ASu) : Bool := bif bif decide (wD1 p a ≤ p.ak) then decide (IntKind.wrap .i64 (p.ak - wD1 p a) < p.r) else false then decide (IntKind.wrap .i64 (p.la - wD1 p a) < p.r) else false
def hdS (p : PSu) (a : ASu) : List (Bool × Bool) := [(decide (a.i < p.c), true), (idR p.l p.k a.i, true), (ldR p.l a.i, true)]
theorem waySu0 (p : PSu) (a : ASu) : T.path [true, true, true, true] (rdSu p a) = some (hdS p a ++ [(badA (xF p.l a.i).1 (xF p.l a.i).2, true)], (.normal, FSu p ⟨a.s, a.n, IntKind.wrap .i64 (a.i + 1)⟩)) := by kernel_rfl
theorem waySu1 (p : PSu) (a : ASu) : T.path [true, true, true, false, false, false] (rdSu p a) = some (hdS p a ++ [(badA (xF p.l a.i).1 (xF p.l a.i).2, false), (p.g == 0, false), (inP p a, false)], (.normal, FSu p ⟨a.s, a.n, IntKind.wrap .i64 (a.i + 1)⟩)) := by kernel_rfl
theorem waySu2 (p : PSu) (a : ASu) : T.path [true, true, true, false, false, true, true] (rdSu p a) = some (hdS p a ++ [(badA (xF p.l a.i).1 (xF p.l a.i).2, false), (p.g == 0, false), (inP p a, true), (Sta.inR a.s && Sta.inR (xF p.l a.i).2, true)], (.normal, FSu p ⟨Mil.cutV (a.s + (xF p.l a.i).2), IntKind.wrap .i64 (a.n + 1), IntKind.wrap .i64 (a.i + 1)⟩)) := by kernel_rfl
theorem waySux (p : PSu) (a : ASu) : T.path [false] (rdSu p a) = some ([(decide (a.i < p.c), false)], (.exit 0, FSu p a)) := by kernel_rfl
/-- is it summed? -/
def pw (g r ak la : Int) (x : TV) : Bool := !badA x.1 x.2 && (decide (Int.tdiv x.1 g ≤ ak) && (decide (ak - Int.tdiv x.1 g < r) && decide (la - Int.tdiv x.1 g < r)))
structure okSu (p : PSu) (a : ASu) : Prop where
  k : p.k = p.l.length
  c : p.c = p.k
  ln : p.k ≤ 100000
  g1 : 1 ≤ p.g
  a0 : 0 ≤ p.ak
  a1 : p.ak ≤ 9223372036854775807
  l0 : -1 ≤ p.la
  l1 : p.la ≤ 1099511627776
  vs : ∀ x ∈ p.l, x.2 ≤ 9223372036854775807
  i0 : 0 ≤ a.i
  i1 : a.i ≤ p.k
  s : a.s = Mil.cutV (sv ((p.l.take a.i.toNat).filter (pw p.g p.r p.ak p.la)))
  n : a.n = (((p.l.take a.i.toNat).filter (pw p.g p.r p.ak p.la)).length : Int)
def goSu (p : PSu) (a : ASu) : Bool := decide (a.i < p.c)
def muSu (p : PSu) (a : ASu) : Nat := (p.k - a.i).toNat
theorem stepSu (p : PSu) (a : ASu) (h : okSu p a) (hg : goSu p a = true) : ∃ b, stepC okSu rdSu FSu muSu p a b := by
  obtain ⟨hk, hc, hl, g1, a0, a1, l0, l1, vs, i0, i1, hs, hn⟩ := h
  have hi : a.i < p.c := of_decide_eq_true hg
  have hw : IntKind.wrap .i64 (a.i + 1) = a.i + 1 := wrap64_in (by omega) (by omega)
  obtain ⟨x1, x2⟩ := idR_is (g := p.l) (k := p.k) (i := a.i) hk i0 (by omega)
  have hlt : a.i.toNat < p.l.length := by omega
  have hx := xF_at i0 hlt
  have tk := take_next i0 hlt
  have v1 := vs _ (List.getElem_mem hlt)
  have hH : allSay (hdS p a) := ⟨hg, x1, x2, trivial⟩
  have g0 : (p.g == 0) = false := by rw [beq_eq_false_iff_ne]; omega
  have mu : (p.k - IntKind.wrap .i64 (a.i + 1)).toNat < (p.k - a.i).toNat := by rw [hw]; omega
  have f3 : 0 ≤ IntKind.wrap .i64 (a.i + 1) := by rw [hw]; omega
  have f4 : IntKind.wrap .i64 (a.i + 1) ≤ p.k := by rw [hw]; omega
  have skip : pw p.g p.r p.ak p.la p.l[a.i.toNat] = false → okSu p ⟨a.s, a.n, IntKind.wrap .i64 (a.i + 1)⟩ := by
    intro hp
    have e : (p.l.take (a.i + 1).toNat).filter (pw p.g p.r p.ak p.la) = (p.l.take a.i.toNat).filter (pw p.g p.r p.ak p.la) := by rw [tk, List.filter_append, List.filter_cons, hp]; simp
    refine ⟨hk, hc, hl, g1, a0, a1, l0, l1, vs, f3, f4, ?_, ?_⟩
    · show a.s = Mil.cutV (sv ((p.l.take (IntKind.wrap .i64 (a.i + 1)).toNat).filter _)); rw [hw, e]; exact hs
    · show a.n = (((p.l.take (IntKind.wrap .i64 (a.i + 1)).toNat).filter _).length : Int); rw [hw, e]; exact hn
  cases hb : badA p.l[a.i.toNat].1 p.l[a.i.toNat].2 with
  | true => exact ⟨_, T.path_eval (waySu0 p a) (allSay_append hH ⟨by rw [hx]; exact hb, trivial⟩), skip (by unfold pw; rw [hb]; rfl), mu⟩
  | false =>
    obtain ⟨t0, t1, v0⟩ := badA_false.1 hb
    obtain ⟨q1, q2⟩ := tdiv_bd t0 g1
    have hd : wD1 p a = Int.tdiv p.l[a.i.toNat].1 p.g := by unfold wD1; rw [hx]; exact wrap64_in (by omega) (by omega)
    have hin : inP p a = pw p.g p.r p.ak p.la p.l[a.i.toNat] := by
      unfold inP pw
      rw [hd, hb, wrap64_in (n := p.ak - _) (by omega) (by omega), wrap64_in (n := p.la - _) (by omega) (by omega)]
      cases decide (Int.tdiv p.l[a.i.toNat].1 p.g ≤ p.ak) <;> cases decide (p.ak - Int.tdiv p.l[a.i.toNat].1 p.g < p.r) <;> rfl
    cases hp : pw p.g p.r p.ak p.la p.l[a.i.toNat] with
    | false => exact ⟨_, T.path_eval (waySu1 p a) (allSay_append hH ⟨by rw [hx]; exact hb, g0, by rw [hin]; exact hp, trivial⟩), skip hp, mu⟩
    | true =>
      have e : (p.l.take (a.i + 1).toNat).filter (pw p.g p.r p.ak p.la) = (p.l.take a.i.toNat).filter (pw p.g p.r p.ak p.la) ++ [p.l[a.i.toNat]] := by rw [tk, List.filter_append, List.filter_cons, hp]; simp
      generalize hF : (p.l.take a.i.toNat).filter (pw p.g p.r p.ak p.la) = F at *
      have fn : 0 ≤ sv F := sv_nonneg fun z hz => by
        rw [← hF] at hz
        have hz := (List.mem_filter.1 hz).2
        unfold pw at hz
        cases hzb : badA z.1 z.2 with
        | true => rw [hzb] at hz; cases hz
        | false => exact (badA_false.1 hzb).2.2
      have fl : F.length ≤ 100000 := by
        rw [← hF]
        have := List.length_filter_le (pw p.g p.r p.ak p.la) (p.l.take a.i.toNat)
        rw [List.length_take] at this; omega
      have se : sv (F ++ [p.l[a.i.toNat]]) = sv F + p.l[a.i.toNat].2 := by rw [sv_append, sv_cons, sv_nil, Int.add_zero]
      have cs := cutV_in fn
      have hR : (Sta.inR a.s && Sta.inR (xF p.l a.i).2) = true := by rw [hs, hx, Sta.inR_iff.2 ⟨by omega, cs.2⟩, Sta.inR_iff.2 ⟨by omega, v1⟩]; rfl
      refine ⟨_, T.path_eval (waySu2 p a) (allSay_append hH ⟨by rw [hx]; exact hb, g0, by rw [hin]; exact hp, hR, trivial⟩), ⟨hk, hc, hl, g1, a0, a1, l0, l1, vs, f3, f4, ?_, ?_⟩, mu⟩
      · show Mil.cutV (a.s + (xF p.l a.i).2) = Mil.cutV (sv ((p.l.take (IntKind.wrap .i64 (a.i + 1)).toNat).filter _))
        rw [hw, e, se, hs, hx, cutV_add fn v0]
      · show IntKind.wrap .i64 (a.n + 1) = (((p.l.take (IntKind.wrap .i64 (a.i + 1)).toNat).filter _).length : Int)
        rw [hw, e, hn, wrap64_in (by omega) (by omega)]; simp
theorem exSu (p : PSu) (a : ASu) (h : okSu p a) (hg : goSu p a = false) : (rdSu p a).eval = some (.exit 0, FSu p a) := T.path_eval (waySux p a) ⟨hg, trivial⟩
noncomputable def famSu : LSpec := famC [10,11,12,13,14,15,54,55,56] SSu 1000 1000 101 decSu okSu goSu rdSu FSu muSu (.exit 0)
theorem lpSu_ok : LoopOk P3 lpSu famSu := famC_ok (vs := vsSu) (bs := bsSu) P3_ok mixed (noLoops_ok _) decSu_ok (by simp) (fun _ _ => rfl) (fun _ _ => rfl) stepSu exSu
noncomputable def sumE6 : Eng.Spec := execS P3 (byReg [(rgSu, famSu)]) 23
theorem sumE6_ok : SpecOk Try.prog 23 sumE6 := execS_loops P3_ok mixed Try.func23 (by kernel_rfl) (by kernel_rfl) (one_lp (by kernel_rfl) rgSu_is lpSu_ok)
def badS (w g t : Int) : Bool := bif badN w g then true else decide (t < 0)
def pSu (l : List TV) (w g t : Int) : PSu := ⟨l.length, (l.length : Int), l, g, nnI w g, IntKind.wrap .i64 (Int.tdiv t g), IntKind.wrap .i64 (Int.tdiv (newV (List.take l.length (List.drop 0 l))) g)⟩
noncomputable def eSu (l : List TV) (w g t : Int) : ASu := endW (nxtC okSu goSu rdSu FSu muSu (pSu l w g t)) ⟨0, 0, 0⟩
theorem sum_way0 (l : List TV) (w g t : Int) : T.path [true] (T.anon (sumE6 [.orow 35 KR2 l, Eng.iv w, Eng.iv g, Eng.iv t])) = some ([(badS w g t, true)], .tup [Eng.iv 0, Eng.iv 0]) := by kernel_rfl
theorem sum_way1 (l : List TV) (w g t : Int) : T.path [false, false, false, true, true, false, true] (T.anon (sumE6 [.orow 35 KR2 l, Eng.iv w, Eng.iv g, Eng.iv t])) =
    some ([(badS w g t, false), (g == 0, false), (g == 0, false), (decide (0 + l.length ≤ l.length), true), (decide ((List.take l.length (List.drop 0 l)).length ≤ 100000), true), (g == 0, false), (invC okSu (pSu l w g t) ⟨0, 0, 0⟩, true)], .tup [Eng.iv (eSu l w g t).s, Eng.iv (eSu l w g t).n]) := by kernel_rfl
/-- what is summed at t -/
def plV (w g t : Int) (l : List TV) : List TV := l.filter (pw g (nN w g) (Int.tdiv t g) (Int.tdiv (newV l) g))
def okL (l : List TV) (t : Int) : Prop := l.length ≤ 100000 ∧ t ≤ 9223372036854775807 ∧ ∀ x ∈ l, x.2 ≤ 9223372036854775807
noncomputable def sumC6 : Eng.Spec
  | [.orow ty [.int .i64, .int .i64] l, .s (.int .i64 w), .s (.int .i64 g), .s (.int .i64 t)] => if ty = 35 then .ite none (badS w g t) (.ret (.tup [Eng.iv 0, Eng.iv 0])) (.ite none (pB (okL l t)) (.ret (.tup [Eng.iv (Mil.cutV (sv (plV w g t l))), Eng.iv ((plV w g t l).length : Int)])) .fail) else .fail
  | _ => .fail
theorem tdiv_neg1 {g : Int} (h : 1 ≤ g) : -1 ≤ Int.tdiv (-1) g ∧ Int.tdiv (-1) g ≤ 0 := by
  have e : Int.tdiv (-1) g = -(Int.tdiv 1 g) := Int.neg_tdiv 1 g
  obtain ⟨q1, q2⟩ := tdiv_bd (t := 1) (g := g) (by omega) h
  omega
theorem sum_run6 (l : List TV) (w g t : Int) (hb : badS w g t = false) (hl : okL l t) : (sumE6 [.orow 35 KR2 l, Eng.iv w, Eng.iv g, Eng.iv t]).eval = some (.tup [Eng.iv (Mil.cutV (sv (plV w g t l))), Eng.iv ((plV w g t l).length : Int)]) := by
  rw [← T.eval_anon (t := sumE6 _)]
  obtain ⟨l1, l2, l3⟩ := hl
  have hb2 := hb
  unfold badS at hb2
  have hN : badN w g = false := by cases h : badN w g with
    | true => rw [h] at hb2; cases hb2
    | false => rfl
  rw [hN] at hb2
  have t0 : ¬ t < 0 := of_decide_eq_false hb2
  obtain ⟨g1, g2, w1⟩ := badN_false.1 hN
  obtain ⟨q1, q2⟩ := tdiv_bd (t := t) (g := g) (by omega) g1
  have g0 : (g == 0) = false := by rw [beq_eq_false_iff_ne]; omega
  have hnew : -1 ≤ Int.tdiv (newV l) g ∧ Int.tdiv (newV l) g ≤ 1099511627776 := by
    obtain ⟨n1, n2⟩ := newV_bd l
    by_cases h : newV l = -1
    · rw [h]; have := tdiv_neg1 g1; omega
    · have := tdiv_bd (t := newV l) (g := g) (by omega) g1; omega
  have ep : pSu l w g t = ⟨l.length, (l.length : Int), l, g, (nN w g : Nat), Int.tdiv t g, Int.tdiv (newV l) g⟩ := by
    unfold pSu
    rw [List.drop_zero, List.take_length, nnI_is g1 g2 w1, wrap64_in (n := Int.tdiv t g) (by omega) (by omega), wrap64_in (n := Int.tdiv (newV l) g) (by omega) (by omega)]
  have h0 : okSu (pSu l w g t) ⟨0, 0, 0⟩ := by
    rw [ep]
    exact ⟨rfl, rfl, l1, g1, q1, by show Int.tdiv t g ≤ _; omega, hnew.1, hnew.2, l3, Int.le_refl _, by show (0 : Int) ≤ l.length; omega, rfl, rfl⟩
  obtain ⟨k1, k2⟩ := endC stepSu h0
  have k1 : okSu (pSu l w g t) (eSu l w g t) := k1
  have k2 : goSu (pSu l w g t) (eSu l w g t) = false := k2
  refine (T.path_eval (sum_way1 l w g t) ⟨hb, g0, g0, decide_eq_true (by omega), decide_eq_true (by rw [List.drop_zero, List.take_length]; exact l1), g0, invC_is h0, trivial⟩).trans ?_
  rw [ep] at k1 k2
  have q1 : (eSu l w g t).i ≤ (l.length : Int) := k1.i1
  have q2 : ¬ (eSu l w g t).i < (l.length : Int) := of_decide_eq_false k2
  have q3 : (eSu l w g t).i.toNat = l.length := by omega
  have s1 : (eSu l w g t).s = Mil.cutV (sv ((l.take (eSu l w g t).i.toNat).filter (pw g (nN w g) (Int.tdiv t g) (Int.tdiv (newV l) g)))) := k1.s
  have s2 : (eSu l w g t).n = (((l.take (eSu l w g t).i.toNat).filter (pw g (nN w g) (Int.tdiv t g) (Int.tdiv (newV l) g))).length : Int) := k1.n
  rw [q3, List.take_length] at s1 s2
  rw [s1, s2]; rfl
theorem sumC6_ok : SpecOk Try.prog 23 sumC6 := sumE6_ok.of_eval fun args v h => by
  unfold sumC6 at h
  split at h
  · split at h
    · rename_i l w g t ht
      subst ht
      cases hb : badS w g t with
      | true =>
        rw [T.eval, hb] at h
        obtain rfl := Option.some.inj h
        rw [← T.eval_anon (t := sumE6 _)]
        exact T.path_eval (sum_way0 l w g t) ⟨hb, trivial⟩
      | false =>
        rw [T.eval, hb] at h
        obtain ⟨hc, h⟩ := ite_some h
        obtain rfl := Option.some.inj h
        exact sum_run6 _ _ _ _ hb (pB_ok hc)
    · cases h
  · cases h
end Go.Proofs.Ytebibmioiigplaa.Pla

/- Layer 6: what plain tells of a few: closed runs. -/
namespace Go.Proofs.Ytebibmioiigplaa.Pla
open Go.Eng Go.RowKit Mil Rin
set_option linter.unusedVariables false
set_option linter.unusedSimpArgs false
noncomputable def newT : Eng.Spec := execS P1 (rounds P1 64 1) 26
theorem newT_ok : SpecOk Try.prog 26 newT := execS_rounds P1_ok mixed 64 1 Try.func26 (by kernel_rfl) (by kernel_rfl)
noncomputable def styT : Eng.Spec := execS P1 (rounds P1 64 1) 28
theorem styT_ok : SpecOk Try.prog 28 styT := execS_rounds P1_ok mixed 64 1 Try.func28 (by kernel_rfl) (by kernel_rfl)
noncomputable def T3 : Cfg := ⟨Try.prog, lookG [(80, .val putP0), (26, .val newT), (81, .val Sta.addS)], [], 0⟩
theorem T3_ok : T3.Ok := Cfg.ok ⟨putP0_ok, newT_ok, Sta.add_ok, trivial⟩ trivial
noncomputable def sumT6 : Eng.Spec := execS T3 (rounds T3 64 1) 23
theorem sumT6_ok : SpecOk Try.prog 23 sumT6 := execS_rounds T3_ok mixed 64 1 Try.func23 (by kernel_rfl) (by kernel_rfl)
noncomputable def T4 : Cfg := ⟨Try.prog, lookG [(23, .val sumT6)], [], 0⟩
theorem T4_ok : T4.Ok := Cfg.ok ⟨sumT6_ok, trivial⟩ trivial
noncomputable def meaT6 : Eng.Spec := execS T4 noLoops 25
theorem meaT6_ok : SpecOk Try.prog 25 meaT6 := execS_plain T4_ok mixed Try.func25 (by kernel_rfl) (by kernel_rfl)
noncomputable def T5 : Cfg := ⟨Try.prog, lookG [(23, .val sumT6), (25, .val meaT6), (26, .val newT), (28, .val styT)], [], 0⟩
theorem T5_ok : T5.Ok := Cfg.ok ⟨sumT6_ok, meaT6_ok, newT_ok, styT_ok, trivial⟩ trivial
noncomputable def tolE : Eng.Spec := execS T5 noLoops 22
theorem tolE_ok : SpecOk Try.prog 22 tolE := execS_plain T5_ok mixed Try.func22 (by kernel_rfl) (by kernel_rfl)
theorem tol_run : (tolE []).eval = some (.s (.bool true)) := by kernel_rfl
theorem told6_ok : SpecOk Try.prog 22 yesR :=
  tolE_ok.of_den fun args v _ h => by
    unfold yesR at h
    split at h
    · simp only [T.eval, Option.some.injEq] at h
      subst h
      exact ⟨_, tol_run, ⟨rfl, rfl⟩, rfl⟩
    · cases h
abbrev wU (n : Int) : Int := IntKind.wrap .u64 n
end Go.Proofs.Ytebibmioiigplaa.Pla

/- Layer 6: the document's Newest. -/
namespace Go.Proofs.Ytebibmioiigplaa.Pla
open Go.Eng Go.RowKit Mil Rin
set_option linter.unusedVariables false
set_option linter.unusedSimpArgs false
def tkB (x : TV) : Bool := bif bif decide (0 ≤ x.1) then decide (x.1 ≤ 1099511627776) else false then decide (0 ≤ x.2) else false
theorem tkB_gd (x : TV) : tkB x = !badA x.1 x.2 := by
  unfold tkB
  cases h : badA x.1 x.2 with
  | false =>
    obtain ⟨h1, h2, h3⟩ := badA_false.1 h
    rw [decide_eq_true h1, decide_eq_true h2, decide_eq_true h3]; rfl
  | true =>
    by_cases q : 0 ≤ x.1 ∧ x.1 ≤ 1099511627776 ∧ 0 ≤ x.2
    · rw [badA_false.2 q] at h; cases h
    · by_cases q1 : 0 ≤ x.1
      · by_cases q2 : x.1 ≤ 1099511627776
        · rw [decide_eq_true q1, decide_eq_true q2, decide_eq_false (show ¬ 0 ≤ x.2 by omega)]; rfl
        · rw [decide_eq_true q1, decide_eq_false q2]; rfl
      · rw [decide_eq_false q1]; rfl
theorem wayNd (p : PNd) (a : ANd) (e : Bool) : T.path ([true, true, true, e] ++ (bif e then [true, true] else [])) (rdNd p a) = some ([(decide (a.i < (p.k : Int)), true), (idR p.l p.k a.i, true), (ldR p.l a.i, true), (tkB (xF p.l a.i), e)] ++ (bif e then [(idR p.l p.k a.i, true), (ldR p.l a.i, true)] else []),
  (.normal, FNd p ⟨bif e then mxR a.n (xF p.l a.i).1 else a.n, wI (a.i + 1)⟩)) := by cases e <;> kernel_rfl
theorem wayNdx (p : PNd) (a : ANd) : T.path [false] (rdNd p a) = some ([(decide (a.i < (p.k : Int)), false)], (.exit 0, FNd p a)) := by kernel_rfl
structure okNd (p : PNd) (a : ANd) : Prop where
  k : p.k = p.l.length
  ln : p.k ≤ 100000
  i0 : 0 ≤ a.i
  i1 : a.i ≤ p.k
  n : a.n = newV (p.l.take a.i.toNat)
def goNd (p : PNd) (a : ANd) : Bool := decide (a.i < (p.k : Int))
def muNd (p : PNd) (a : ANd) : Nat := (p.k - a.i).toNat
theorem stepNd (p : PNd) (a : ANd) (h : okNd p a) (hg : goNd p a = true) : ∃ b, stepC okNd rdNd FNd muNd p a b := by
  obtain ⟨hk, hl, i0, i1, hn⟩ := h
  have hi : a.i < (p.k : Int) := of_decide_eq_true hg
  have hw : wI (a.i + 1) = a.i + 1 := wrap64_in (by omega) (by omega)
  obtain ⟨x1, x2⟩ := idR_is (g := p.l) (k := p.k) (i := a.i) hk i0 hi
  have hlt : a.i.toNat < p.l.length := by omega
  have hx := xF_at i0 hlt
  have tk := take_next i0 hlt
  refine ⟨_, T.path_eval (wayNd p a (tkB (xF p.l a.i))) (allSay_append ⟨hg, x1, x2, rfl, trivial⟩ (by cases tkB (xF p.l a.i) with
    | true => exact ⟨x1, x2, trivial⟩
    | false => trivial)), ⟨hk, hl, ?_, ?_, ?_⟩, ?_⟩
  · show 0 ≤ wI (a.i + 1); rw [hw]; omega
  · show wI (a.i + 1) ≤ p.k; rw [hw]; omega
  · show (bif tkB (xF p.l a.i) then mxR a.n (xF p.l a.i).1 else a.n) = newV (p.l.take (wI (a.i + 1)).toNat)
    rw [hw, tk, newV_app, ← hn, tkB_gd, hx]
    unfold nxV
    cases badA p.l[a.i.toNat].1 p.l[a.i.toNat].2 <;> rfl
  · show (p.k - wI (a.i + 1)).toNat < (p.k - a.i).toNat; rw [hw]; omega
theorem exNd (p : PNd) (a : ANd) (h : okNd p a) (hg : goNd p a = false) : (rdNd p a).eval = some (.exit 0, FNd p a) := T.path_eval (wayNdx p a) ⟨hg, trivial⟩
noncomputable def famNd : LSpec := famC [0,3,4] SNd 100 100 24 decNd okNd goNd rdNd FNd muNd (.exit 0)
theorem lpNd_ok : LoopOk P2 lpNd famNd := famC_ok (vs := vsNd) (bs := bsNd) P2_ok mixed (noLoops_ok _) decNd_ok (by simp) (fun _ _ => rfl) (fun _ _ => rfl) stepNd exNd
noncomputable def nwdE : Eng.Spec := execS P2 (byReg [(rgNd, famNd)]) 27
theorem nwdE_ok : SpecOk Try.prog 27 nwdE := execS_loops P2_ok mixed Try.func27 (by kernel_rfl) (by kernel_rfl) (one_lp (by kernel_rfl) rgNd_is lpNd_ok)
noncomputable def eNd (l : List TV) : ANd := endW (nxtC okNd goNd rdNd FNd muNd ⟨l.length, l⟩) ⟨-1, 0⟩
theorem nwd_way (l : List TV) : T.path [true] (T.anon (nwdE [.orow 35 KR2 l])) = some ([(invC okNd ⟨l.length, l⟩ ⟨-1, 0⟩, true)], Eng.iv (eNd l).n) := by kernel_rfl
theorem nwd_run (l : List TV) (hl : l.length ≤ 100000) : (nwdE [.orow 35 KR2 l]).eval = some (Eng.iv (newV l)) := by
  rw [← T.eval_anon (t := nwdE _)]
  have h0 : okNd ⟨l.length, l⟩ ⟨-1, 0⟩ := ⟨rfl, hl, Int.le_refl _, by show (0 : Int) ≤ l.length; omega, rfl⟩
  obtain ⟨k1, k2⟩ := endC stepNd h0
  refine (T.path_eval (nwd_way l) ⟨invC_is h0, trivial⟩).trans ?_
  have k1 : okNd ⟨l.length, l⟩ (eNd l) := k1
  have q1 : (eNd l).i ≤ (l.length : Int) := k1.i1
  have q2 : ¬ (eNd l).i < (l.length : Int) := of_decide_eq_false k2
  have q3 : (eNd l).i.toNat = l.length := by omega
  have q4 : (eNd l).n = newV (l.take (eNd l).i.toNat) := k1.n
  rw [q4, q3, List.take_length]
theorem newD_ok : SpecOk Try.prog 27 newC := nwdE_ok.of_eval fun args v h => by
  unfold newC at h
  split at h
  · split at h
    · rename_i ht
      subst ht
      obtain ⟨hc, h⟩ := ite_some h
      obtain rfl := Option.some.inj h
      exact nwd_run _ (of_decide_eq_true hc)
    · cases h
  · cases h
end Go.Proofs.Ytebibmioiigplaa.Pla

/- Layer 6: the document's ring of all records beside the plain sums (numbers and lists alone). -/
namespace Go.Proofs.Ytebibmioiigplaa.Pla
open Go.Eng Go.RowKit Mil Rin
set_option linter.unusedVariables false
set_option linter.unusedSimpArgs false
def gdT (x : TV) : Bool := !badA x.1 x.2
/-- the newest bucket -/
def nwB (g n : Int) : Int := if n < 0 then -1 else Int.tdiv n g
theorem tdiv_mono {a b g : Int} (h0 : 0 ≤ a) (h : a ≤ b) (hg : 1 ≤ g) : Int.tdiv a g ≤ Int.tdiv b g := by
  rw [Int.tdiv_eq_ediv_of_nonneg h0, Int.tdiv_eq_ediv_of_nonneg (by omega)]
  exact Int.ediv_le_ediv (by omega) h
theorem nxV_le (n : Int) (x : TV) : n ≤ nxV n x := by
  unfold nxV
  cases badA x.1 x.2 with
  | true => exact Int.le_refl _
  | false => simp only [cond_false]; unfold mxR; split <;> omega
theorem fold_le : ∀ (l : List TV) (n : Int), n ≤ l.foldl nxV n
  | [], n => Int.le_refl _
  | x :: r, n => by rw [List.foldl_cons]; exact Int.le_trans (nxV_le n x) (fold_le r _)
theorem fold_ge : ∀ (l : List TV) (n : Int) (x : TV), x ∈ l → gdT x = true → x.1 ≤ l.foldl nxV n
  | y :: r, n, x, h, hg => by
    rw [List.foldl_cons]
    rcases List.mem_cons.1 h with rfl | h
    · refine Int.le_trans ?_ (fold_le r _)
      unfold gdT at hg
      unfold nxV
      cases hb : badA x.1 x.2 with
      | true => rw [hb] at hg; cases hg
      | false => simp only [cond_false]; unfold mxR; split <;> omega
    · exact fold_ge r _ x h hg
theorem newV_ge {l : List TV} {x : TV} (h : x ∈ l) (hg : gdT x = true) : x.1 ≤ newV l := fold_ge l (-1) x h hg
theorem nwB_bd {l : List TV} {g : Int} (hg : 1 ≤ g) : -1 ≤ nwB g (newV l) ∧ nwB g (newV l) ≤ 1099511627776 := by
  obtain ⟨h1, h2⟩ := newV_bd l
  unfold nwB
  split
  · omega
  · have := tdiv_bd (t := newV l) (g := g) (by omega) hg; omega
theorem nwB_max {n t g : Int} (hn : -1 ≤ n) (t0 : 0 ≤ t) (hg : 1 ≤ g) : nwB g (mxR n t) = mxR (nwB g n) (Int.tdiv t g) := by
  obtain ⟨q1, q2⟩ := tdiv_bd t0 hg
  unfold nwB
  by_cases h : n < 0
  · rw [if_pos h, mxR_r (show n ≤ t by omega), mxR_r (show -1 ≤ Int.tdiv t g by omega), if_neg (by omega)]
  · rw [if_neg h]
    by_cases q : t ≤ n
    · rw [mxR_l q, mxR_l (tdiv_mono t0 q hg), if_neg h]
    · rw [mxR_r (show n ≤ t by omega), mxR_r (tdiv_mono (by omega) (show n ≤ t by omega) hg), if_neg (by omega)]
/-- d is the document's ring behind the records l -/
structure DocR (w g : Int) (l : List TV) (d : DS) : Prop where
  fw : d.w = w
  fg : d.g = g
  fn : d.nw = nwB g (newV l)
  fl : d.l = (l.filter gdT).filter (kpD w g (nwB g (newV l)))
theorem DocR.new {w g : Int} : DocR w g [] ⟨w, g, 0, -1, false, []⟩ := ⟨rfl, rfl, rfl, rfl⟩
theorem DocR.bad {w g : Int} {l : List TV} {d : DS} (h : DocR w g l d) {x : TV} (hb : badA x.1 x.2 = true) : DocR w g (l ++ [x]) d := by
  have e : newV (l ++ [x]) = newV l := by rw [newV_app]; unfold nxV; rw [hb]; rfl
  have f : (l ++ [x]).filter gdT = l.filter gdT := by rw [List.filter_append, List.filter_cons]; unfold gdT; rw [hb]; simp
  exact ⟨h.fw, h.fg, by rw [e]; exact h.fn, by rw [e, f]; exact h.fl⟩
theorem filter_gd {l : List TV} {x : TV} (hb : badA x.1 x.2 = false) : (l ++ [x]).filter gdT = l.filter gdT ++ [x] := by
  rw [List.filter_append, List.filter_cons, show gdT x = true by unfold gdT; rw [hb]; rfl]; rfl
theorem DocR.late {w g : Int} {l : List TV} {d : DS} (h : DocR w g l d) (hg : 1 ≤ g) {x : TV} (hb : badA x.1 x.2 = false) (hq : ((nN w g : Nat) : Int) ≤ d.nw - Int.tdiv x.1 g) (hn : 0 < nN w g) : DocR w g (l ++ [x]) d := by
  obtain ⟨t0, t1, v0⟩ := badA_false.1 hb
  obtain ⟨q1, q2⟩ := tdiv_bd t0 hg
  have hw := h.fn
  have n0 := (newV_bd l).1
  have e0 : ¬ newV l < 0 := fun hc => by
    rw [hw] at hq; unfold nwB at hq; rw [if_pos hc] at hq; omega
  have e1 : nwB g (newV l) = Int.tdiv (newV l) g := by unfold nwB; rw [if_neg e0]
  have ht : x.1 ≤ newV l := by
    apply Decidable.byContradiction
    intro hc
    have := tdiv_mono (a := newV l) (b := x.1) (g := g) (by omega) (by omega) hg
    rw [hw, e1] at hq; omega
  have e : newV (l ++ [x]) = newV l := by rw [newV_app]; unfold nxV; rw [hb]; exact mxR_l ht
  refine ⟨h.fw, h.fg, by rw [e]; exact hw, ?_⟩
  rw [e, filter_gd hb, List.filter_append, ← h.fl, List.filter_cons]
  have : kpD w g (nwB g (newV l)) x = false := by unfold kpD; rw [← hw]; exact decide_eq_false (by omega)
  rw [this]; simp
theorem DocR.put {w g : Int} {l : List TV} {d : DS} (h : DocR w g l d) (hg : 1 ≤ g) (hd : d.n = d.l.length) {x : TV} (hb : badA x.1 x.2 = false) : DocR w g (l ++ [x]) (d.put x.1 x.2) := by
  obtain ⟨t0, t1, v0⟩ := badA_false.1 hb
  have n0 := (newV_bd l).1
  have e : newV (l ++ [x]) = mxR (newV l) x.1 := by rw [newV_app]; unfold nxV; rw [hb]; rfl
  have em : nwB g (newV (l ++ [x])) = mxR (nwB g (newV l)) (Int.tdiv x.1 g) := by rw [e]; exact nwB_max n0 t0 hg
  refine ⟨h.fw, h.fg, ?_, ?_⟩
  · show mxR d.nw (Int.tdiv x.1 d.g) = _
    rw [em, h.fn, h.fg]
  · show keepD d.w d.g d.n (mxR d.nw (Int.tdiv x.1 d.g)) d.l (x.1, x.2) = _
    rw [h.fw, h.fg, h.fn, ← em]
    unfold keepD
    rw [hd, List.take_length, filter_gd hb, List.filter_append, List.filter_append, h.fl, List.filter_filter]
    congr 1
    apply List.filter_congr
    intro y _
    unfold kpD
    have : nwB g (newV l) ≤ nwB g (newV (l ++ [x])) := by rw [em]; unfold mxR; split <;> omega
    rw [Bool.eq_iff_iff]
    simp only [Bool.and_eq_true, decide_eq_true_eq]
    omega
/-- what the document sums is what plain sums -/
theorem DocR.sum {w g : Int} {l : List TV} {d : DS} (h : DocR w g l d) (hg : 1 ≤ g) {t : Int} (t0 : 0 ≤ t) : wD d.w d.g t d.l = plV w g t l := by
  unfold wD plV
  rw [h.fw, h.fg, h.fl, List.filter_filter, List.filter_filter]
  apply List.filter_congr
  intro x hx
  unfold inD kpD pw gdT
  cases hb : badA x.1 x.2 with
  | true => simp
  | false =>
    have hgx : gdT x = true := by unfold gdT; rw [hb]; rfl
    have k1 := newV_ge hx hgx
    have k2 := (badA_false.1 hb).1
    have e1 : nwB g (newV l) = Int.tdiv (newV l) g := by unfold nwB; rw [if_neg (by omega)]
    rw [e1, Bool.eq_iff_iff]
    simp only [Bool.not_false, Bool.true_and, Bool.and_true, Bool.and_eq_true, decide_eq_true_eq]
    omega
theorem DocR.okd {w g : Int} {l : List TV} {d : DS} (h : DocR w g l d) (g1 : 1 ≤ g) (g2 : g ≤ w) (w1 : w ≤ 600) (hl : l.length ≤ 100000) (hv : ∀ x ∈ l, x.2 ≤ 9223372036854775807) : OkD d.w d.g d.nw d.l := by
  obtain ⟨n0, n1⟩ := nwB_bd (l := l) g1
  rw [h.fw, h.fg, h.fn]
  refine ⟨g1, g2, w1, n0, n1, ?_, ?_⟩
  · rw [h.fl]; exact Nat.le_trans (List.length_filter_le _ _) (Nat.le_trans (List.length_filter_le _ _) hl)
  · intro x hx
    rw [h.fl] at hx
    obtain ⟨h1, h2⟩ := List.mem_filter.1 (List.mem_filter.1 hx).1
    have hb : badA x.1 x.2 = false := by unfold gdT at h2; cases hb : badA x.1 x.2 with
      | true => rw [hb] at h2; cases h2
      | false => rfl
    obtain ⟨t0, t1, v0⟩ := badA_false.1 hb
    exact ⟨t0, t1, v0, hv x h1⟩
end Go.Proofs.Ytebibmioiigplaa.Pla

/- Layer 6: Steady, the program's and the document's. -/
namespace Go.Proofs.Ytebibmioiigplaa.Pla
open Go.Eng Go.RowKit Mil Rin
set_option linter.unusedVariables false
set_option linter.unusedSimpArgs false
noncomputable def lpSz : Code := loopAt Try.prog 28 0
structure PSz where (k : Nat) (c : Int) (l : List (Int × Int)) (v : Int)
structure ASz where (i : Int)
abbrev SSz : List (Nat × Src) := [(0, .same)]
def vsSz (p : PSz) (a : ASz) : List V := [iv p.v, .sub 0 2 0 p.k, iv p.c, iv a.i]
def bsSz (p : PSz) (a : ASz) : List Blk := [.lst false 35 [.int .i64, .int .i64] p.l]
noncomputable def FSz (p : PSz) (a : ASz) : St := mkSt [1,9,10,11] (keysR SSz) 100 29 (vsSz p a) (bsSz p a)
abbrev SSzx : List (Nat × Src) := [(0, .same)]
noncomputable def rdSz (p : PSz) (a : ASz) : T (Ex × St) := T.anon (roundX P1 noLoops lpSz [1,9,10,11] SSz [4] SSzx 100 100 (mkSt [1,9,10,11] (keysR SSz) 100 29 (vsSz p a) (bsSz p a)))
def decSz : List V → List Blk → Option (PSz × ASz)
  | [.s (.int .i64 v), .sub 0 2 0 k, .s (.int .i64 c), .s (.int .i64 i)], [.lst false tt0 [.int .i64, .int .i64] l] =>
    if tt0 = 35 then some (⟨k, c, l, v⟩, ⟨i⟩) else none
  | _, _ => none
theorem decSz_ok (l : List V) (b : List Blk) (d : PSz × ASz) (h : decSz l b = some d) : l = vsSz d.1 d.2 ∧ b = bsSz d.1 d.2 := by
  unfold decSz at h
  split at h
  · obtain ⟨e0, h⟩ := ite_some0 h
    subst e0
    cases h
    exact ⟨rfl, rfl⟩
  · cases h
noncomputable def rgSz : Nat := (firstReg lpSz).getD 0
theorem rgSz_is : firstReg lpSz = some rgSz := by kernel_rfl
noncomputable def lpSe : Code := loopAt Try.prog 29 0
structure PSe where (k : Nat) (l : List (Int × Int)) (v : Int)
structure ASe where (i : Int)
abbrev SSe : List (Nat × Src) := [(0, .same)]
def vsSe (p : PSe) (a : ASe) : List V := [.sub 0 2 0 p.k, iv p.v, iv a.i]
def bsSe (p : PSe) (a : ASe) : List Blk := [.lst false 35 [.int .i64, .int .i64] p.l]
noncomputable def FSe (p : PSe) (a : ASe) : St := mkSt [0,1,5] (keysR SSe) 100 26 (vsSe p a) (bsSe p a)
abbrev SSex : List (Nat × Src) := [(0, .same)]
noncomputable def rdSe (p : PSe) (a : ASe) : T (Ex × St) := T.anon (roundX P2 noLoops lpSe [0,1,5] SSe [4] SSex 100 100 (mkSt [0,1,5] (keysR SSe) 100 26 (vsSe p a) (bsSe p a)))
def decSe : List V → List Blk → Option (PSe × ASe)
  | [.sub 0 2 0 k, .s (.int .i64 v), .s (.int .i64 i)], [.lst false tt0 [.int .i64, .int .i64] l] =>
    if tt0 = 35 then some (⟨k, l, v⟩, ⟨i⟩) else none
  | _, _ => none
theorem decSe_ok (l : List V) (b : List Blk) (d : PSe × ASe) (h : decSe l b = some d) : l = vsSe d.1 d.2 ∧ b = bsSe d.1 d.2 := by
  unfold decSe at h
  split at h
  · obtain ⟨e0, h⟩ := ite_some0 h
    subst e0
    cases h
    exact ⟨rfl, rfl⟩
  · cases h
noncomputable def rgSe : Nat := (firstReg lpSe).getD 0
theorem rgSe_is : firstReg lpSe = some rgSe := by kernel_rfl
end Go.Proofs.Ytebibmioiigplaa.Pla

/- Layer 6: Steady: their rounds; Mean. -/
namespace Go.Proofs.Ytebibmioiigplaa.Pla
open Go.Eng Go.RowKit Mil Rin
set_option linter.unusedVariables false
set_option linter.unusedSimpArgs false
def gdP6 (d c : Bool) : Bool := bif d == true && true then c else true
theorem gdP6_t {d c : Bool} (h : c = true) : gdP6 d c = true := by unfold gdP6; rw [h]; cases d <;> rfl
/-- does it leave it steady? -/
def stB (v : Int) (x : TV) : Bool := badA x.1 x.2 || x.2 == v
def styB (v : Int) (l : List TV) : Bool := l.all (stB v)
theorem wayZ0 (p : PSz) (a : ASz) : T.path [true, true, true, true] (rdSz p a) = some ([(decide (a.i < p.c), true), (idR p.l p.k a.i, true), (ldR p.l a.i, true), (badA (xF p.l a.i).1 (xF p.l a.i).2, true)], (.normal, FSz p ⟨wI (a.i + 1)⟩)) := by kernel_rfl
theorem wayZ1 (p : PSz) (a : ASz) : T.path [true, true, true, false, false] (rdSz p a) = some ([(decide (a.i < p.c), true), (idR p.l p.k a.i, true), (ldR p.l a.i, true), (badA (xF p.l a.i).1 (xF p.l a.i).2, false), ((xF p.l a.i).2 != p.v, false)], (.normal, FSz p ⟨wI (a.i + 1)⟩)) := by kernel_rfl
theorem wayZ2 (p : PSz) (a : ASz) : T.path [true, true, true, false, true] (rdSz p a) = some ([(decide (a.i < p.c), true), (idR p.l p.k a.i, true), (ldR p.l a.i, true), (badA (xF p.l a.i).1 (xF p.l a.i).2, false), ((xF p.l a.i).2 != p.v, true)], (.ret, mkSt [4] [0] 100 29 [bv false] (bsSz p a))) := by kernel_rfl
theorem wayZx (p : PSz) (a : ASz) : T.path [false] (rdSz p a) = some ([(decide (a.i < p.c), false)], (.exit 0, mkSt [4] [0] 100 29 [.junk] (bsSz p a))) := by kernel_rfl
structure okSz (p : PSz) (a : ASz) : Prop where
  k : p.k = p.l.length
  c : p.c = p.k
  ln : p.k ≤ 100000
  i0 : 0 ≤ a.i
  i1 : a.i ≤ p.k
  s : styB p.v (p.l.take a.i.toNat) = true
def goSz (p : PSz) (a : ASz) : Bool := decide (a.i < p.c) && stB p.v (xF p.l a.i)
def muSz (p : PSz) (a : ASz) : Nat := (p.k - a.i).toNat
def outSz (p : PSz) (a : ASz) : T (Ex × St) := .ite none (styB p.v p.l) (.ret (.exit 0, mkSt [4] [0] 100 29 [.junk] (bsSz p a))) (.ret (.ret, mkSt [4] [0] 100 29 [bv false] (bsSz p a)))
theorem styB_next {v : Int} {l : List TV} {i : Int} (h0 : 0 ≤ i) (hlt : i.toNat < l.length) (h : styB v (l.take i.toNat) = true) (hs : stB v l[i.toNat] = true) : styB v (l.take (i + 1).toNat) = true := by
  unfold styB at *
  rw [take_next h0 hlt, List.all_append, h, List.all_cons, hs]; rfl
theorem styB_not {v : Int} {l : List TV} {k : Nat} (hlt : k < l.length) (hs : stB v l[k] = false) : styB v l = false := by
  unfold styB
  rw [Bool.eq_false_iff]
  intro hc
  have := List.all_eq_true.1 hc _ (List.getElem_mem hlt)
  rw [hs] at this; cases this
theorem ne_of_st {v y : Int} {b : Bool} (hb : b = false) (h : (b || y == v) = true) : (y != v) = false := by
  rw [hb, Bool.false_or] at h
  unfold bne; rw [h]; rfl
theorem stepSz (p : PSz) (a : ASz) (h : okSz p a) (hg : goSz p a = true) : ∃ b, stepC okSz rdSz FSz muSz p a b := by
  obtain ⟨hk, hc, hl, i0, i1, hs⟩ := h
  obtain ⟨hg1, hg2⟩ := (Bool.and_eq_true _ _).mp hg
  have hi : a.i < p.c := of_decide_eq_true hg1
  have hw : wI (a.i + 1) = a.i + 1 := wrap64_in (by omega) (by omega)
  obtain ⟨x1, x2⟩ := idR_is (g := p.l) (k := p.k) (i := a.i) hk i0 (by omega)
  have hlt : a.i.toNat < p.l.length := by omega
  have hx := xF_at i0 hlt
  have ok : okSz p ⟨wI (a.i + 1)⟩ := ⟨hk, hc, hl, by show 0 ≤ wI (a.i + 1); rw [hw]; omega, by show wI (a.i + 1) ≤ p.k; rw [hw]; omega, by
    show styB p.v (p.l.take (wI (a.i + 1)).toNat) = true
    rw [hw]; rw [hx] at hg2; exact styB_next i0 hlt hs hg2⟩
  have mu : (p.k - wI (a.i + 1)).toNat < (p.k - a.i).toNat := by rw [hw]; omega
  cases hb : badA (xF p.l a.i).1 (xF p.l a.i).2 with
  | true => exact ⟨_, T.path_eval (wayZ0 p a) ⟨hg1, x1, x2, hb, trivial⟩, ok, mu⟩
  | false => exact ⟨_, T.path_eval (wayZ1 p a) ⟨hg1, x1, x2, hb, ne_of_st hb hg2, trivial⟩, ok, mu⟩
theorem exSz (p : PSz) (a : ASz) (h : okSz p a) (hg : goSz p a = false) (r : Ex × St) (hr : (outSz p a).eval = some r) : r.1 ≠ .normal ∧ (rdSz p a).eval = some r := by
  obtain ⟨hk, hc, hl, i0, i1, hs⟩ := h
  cases hi : decide (a.i < p.c) with
  | false =>
    have hi' : ¬ a.i < p.c := of_decide_eq_false hi
    rw [List.take_of_length_le (show p.l.length ≤ a.i.toNat by omega)] at hs
    simp only [outSz, hs, T.eval, cond_true, Option.some.injEq] at hr
    subst hr
    exact ⟨by simp, T.path_eval (wayZx p a) ⟨hi, trivial⟩⟩
  | true =>
    have hi' : a.i < p.c := of_decide_eq_true hi
    have hlt : a.i.toNat < p.l.length := by omega
    have hx := xF_at i0 hlt
    unfold goSz at hg
    rw [hi, Bool.true_and] at hg
    have hn : styB p.v p.l = false := styB_not hlt (by rw [← hx]; exact hg)
    unfold stB at hg
    obtain ⟨hb, hv⟩ := (Bool.or_eq_false_iff).1 hg
    simp only [outSz, hn, T.eval, cond_false, Option.some.injEq] at hr
    subst hr
    obtain ⟨x1, x2⟩ := idR_is (g := p.l) (k := p.k) (i := a.i) hk i0 (by omega)
    exact ⟨by simp, T.path_eval (wayZ2 p a) ⟨hi, x1, x2, hb, by unfold bne; rw [hv]; rfl, trivial⟩⟩
noncomputable def famSz : LSpec := famE [1,9,10,11] SSz SSzx 100 100 29 decSz okSz goSz rdSz FSz muSz outSz
theorem lpSz_ok : LoopOk P1 lpSz famSz := famE_ok (vs := vsSz) (bs := bsSz) P1_ok mixed (noLoops_ok _) decSz_ok (fun _ _ => rfl) (fun _ _ => rfl) stepSz exSz
noncomputable def styE : Eng.Spec := execS P1 (byReg [(rgSz, famSz)]) 28
theorem styE_ok : SpecOk Try.prog 28 styE := execS_loops P1_ok mixed Try.func28 (by kernel_rfl) (by kernel_rfl) (one_lp (by kernel_rfl) rgSz_is lpSz_ok)
theorem sty_w1 (l : List TV) (v : Int) : T.path [true, true] (T.anon (styE [.orow 35 KR2 l, Eng.iv v])) = some ([(invC okSz ⟨l.length, (l.length : Int), l, v⟩ ⟨0⟩, true), (styB v l, true)], .tt) := by kernel_rfl
theorem sty_w0 (l : List TV) (v : Int) : T.path [true, false] (T.anon (styE [.orow 35 KR2 l, Eng.iv v])) = some ([(invC okSz ⟨l.length, (l.length : Int), l, v⟩ ⟨0⟩, true), (styB v l, false)], bv false) := by kernel_rfl
/-! ### the document's -/
theorem wayE0 (p : PSe) (a : ASe) (e : Bool) : T.path [true, true, true, true, true, e] (rdSe p a) = some ([(decide (a.i < (p.k : Int)), true), (idR p.l p.k a.i, true), (ldR p.l a.i, true), (gdP6 (tkB (xF p.l a.i)) (idR p.l p.k a.i), true), (gdP6 (tkB (xF p.l a.i)) (ldR p.l a.i), true), ((bif tkB (xF p.l a.i) then (xF p.l a.i).2 != p.v else false), e)], bif e then (.ret, mkSt [4] [0] 100 26 [bv false] (bsSe p a)) else (.normal, FSe p ⟨wI (a.i + 1)⟩)) := by cases e <;> kernel_rfl
theorem wayEx (p : PSe) (a : ASe) : T.path [false] (rdSe p a) = some ([(decide (a.i < (p.k : Int)), false)], (.exit 0, mkSt [4] [0] 100 26 [.junk] (bsSe p a))) := by kernel_rfl
structure okSe (p : PSe) (a : ASe) : Prop where
  k : p.k = p.l.length
  ln : p.k ≤ 100000
  i0 : 0 ≤ a.i
  i1 : a.i ≤ p.k
  s : styB p.v (p.l.take a.i.toNat) = true
def goSe (p : PSe) (a : ASe) : Bool := decide (a.i < (p.k : Int)) && stB p.v (xF p.l a.i)
def muSe (p : PSe) (a : ASe) : Nat := (p.k - a.i).toNat
def outSe (p : PSe) (a : ASe) : T (Ex × St) := .ite none (styB p.v p.l) (.ret (.exit 0, mkSt [4] [0] 100 26 [.junk] (bsSe p a))) (.ret (.ret, mkSt [4] [0] 100 26 [bv false] (bsSe p a)))
theorem nst (v : Int) (x : TV) : (bif tkB x then x.2 != v else false) = !stB v x := by
  rw [tkB_gd]; unfold stB bne
  cases badA x.1 x.2 <;> cases (x.2 == v) <;> rfl
theorem stepSe (p : PSe) (a : ASe) (h : okSe p a) (hg : goSe p a = true) : ∃ b, stepC okSe rdSe FSe muSe p a b := by
  obtain ⟨hk, hl, i0, i1, hs⟩ := h
  obtain ⟨hg1, hg2⟩ := (Bool.and_eq_true _ _).mp hg
  have hi : a.i < (p.k : Int) := of_decide_eq_true hg1
  have hw : wI (a.i + 1) = a.i + 1 := wrap64_in (by omega) (by omega)
  obtain ⟨x1, x2⟩ := idR_is (g := p.l) (k := p.k) (i := a.i) hk i0 (by omega)
  have hlt : a.i.toNat < p.l.length := by omega
  have hx := xF_at i0 hlt
  refine ⟨_, T.path_eval (wayE0 p a false) ⟨hg1, x1, x2, gdP6_t x1, gdP6_t x2, by rw [nst, hg2]; rfl, trivial⟩, ⟨hk, hl, by show 0 ≤ wI (a.i + 1); rw [hw]; omega, by show wI (a.i + 1) ≤ p.k; rw [hw]; omega, ?_⟩, ?_⟩
  · show styB p.v (p.l.take (wI (a.i + 1)).toNat) = true
    rw [hw]; rw [hx] at hg2; exact styB_next i0 hlt hs hg2
  · show (p.k - wI (a.i + 1)).toNat < (p.k - a.i).toNat; rw [hw]; omega
theorem exSe (p : PSe) (a : ASe) (h : okSe p a) (hg : goSe p a = false) (r : Ex × St) (hr : (outSe p a).eval = some r) : r.1 ≠ .normal ∧ (rdSe p a).eval = some r := by
  obtain ⟨hk, hl, i0, i1, hs⟩ := h
  cases hi : decide (a.i < (p.k : Int)) with
  | false =>
    have hi' : ¬ a.i < (p.k : Int) := of_decide_eq_false hi
    rw [List.take_of_length_le (show p.l.length ≤ a.i.toNat by omega)] at hs
    simp only [outSe, hs, T.eval, cond_true, Option.some.injEq] at hr
    subst hr
    exact ⟨by simp, T.path_eval (wayEx p a) ⟨hi, trivial⟩⟩
  | true =>
    have hi' : a.i < (p.k : Int) := of_decide_eq_true hi
    have hlt : a.i.toNat < p.l.length := by omega
    have hx := xF_at i0 hlt
    unfold goSe at hg
    rw [hi, Bool.true_and] at hg
    have hn : styB p.v p.l = false := styB_not hlt (by rw [← hx]; exact hg)
    simp only [outSe, hn, T.eval, cond_false, Option.some.injEq] at hr
    subst hr
    obtain ⟨x1, x2⟩ := idR_is (g := p.l) (k := p.k) (i := a.i) hk i0 (by omega)
    exact ⟨by simp, T.path_eval (wayE0 p a true) ⟨hi, x1, x2, gdP6_t x1, gdP6_t x2, by rw [nst, hg]; rfl, trivial⟩⟩
noncomputable def famSe : LSpec := famE [0,1,5] SSe SSex 100 100 26 decSe okSe goSe rdSe FSe muSe outSe
theorem lpSe_ok : LoopOk P2 lpSe famSe := famE_ok (vs := vsSe) (bs := bsSe) P2_ok mixed (noLoops_ok _) decSe_ok (fun _ _ => rfl) (fun _ _ => rfl) stepSe exSe
noncomputable def sedE : Eng.Spec := execS P2 (byReg [(rgSe, famSe)]) 29
theorem sedE_ok : SpecOk Try.prog 29 sedE := execS_loops P2_ok mixed Try.func29 (by kernel_rfl) (by kernel_rfl) (one_lp (by kernel_rfl) rgSe_is lpSe_ok)
theorem sed_w1 (l : List TV) (v : Int) : T.path [true, true] (T.anon (sedE [.orow 35 KR2 l, Eng.iv v])) = some ([(invC okSe ⟨l.length, l, v⟩ ⟨0⟩, true), (styB v l, true)], .tt) := by kernel_rfl
theorem sed_w0 (l : List TV) (v : Int) : T.path [true, false] (T.anon (sedE [.orow 35 KR2 l, Eng.iv v])) = some ([(invC okSe ⟨l.length, l, v⟩ ⟨0⟩, true), (styB v l, false)], bv false) := by kernel_rfl
def styC : Eng.Spec
  | [.orow t [.int .i64, .int .i64] l, .s (.int .i64 v)] => if t = 35 then .ite none (decide (l.length ≤ 100000)) (.ret (bv (styB v l))) .fail else .fail
  | _ => .fail
theorem styC_of {f : Nat} {sp : Eng.Spec} (h : SpecOk Try.prog f sp) (hr : ∀ (l : List TV) (v : Int), l.length ≤ 100000 → (styB v l = true → (sp [.orow 35 KR2 l, Eng.iv v]).eval = some .tt) ∧ (styB v l = false → (sp [.orow 35 KR2 l, Eng.iv v]).eval = some (bv false))) : SpecOk Try.prog f styC :=
  h.of_den fun args x hfl hx => by
    clear hfl
    unfold styC at hx
    split at hx
    · split at hx
      · rename_i t l v ht
        subst ht
        obtain ⟨hc, hx⟩ := ite_some hx
        obtain rfl := Option.some.inj hx
        obtain ⟨h1, h2⟩ := hr l v (of_decide_eq_true hc)
        cases hs : styB v l with
        | true => exact ⟨_, h1 hs, ⟨rfl, rfl⟩, rfl⟩
        | false => exact ⟨_, h2 hs, ⟨rfl, rfl⟩, rfl⟩
      · cases hx
    · cases hx
theorem styC_ok : SpecOk Try.prog 28 styC := styC_of styE_ok fun l v hl => by
  have h0 : okSz ⟨l.length, (l.length : Int), l, v⟩ ⟨0⟩ := ⟨rfl, rfl, hl, Int.le_refl _, by show (0 : Int) ≤ l.length; omega, rfl⟩
  rw [← T.eval_anon (t := styE _)]
  exact ⟨fun h => T.path_eval (sty_w1 l v) ⟨invC_is h0, h, trivial⟩, fun h => T.path_eval (sty_w0 l v) ⟨invC_is h0, h, trivial⟩⟩
theorem sedC_ok : SpecOk Try.prog 29 styC := styC_of sedE_ok fun l v hl => by
  have h0 : okSe ⟨l.length, l, v⟩ ⟨0⟩ := ⟨rfl, hl, Int.le_refl _, by show (0 : Int) ≤ l.length; omega, rfl⟩
  rw [← T.eval_anon (t := sedE _)]
  exact ⟨fun h => T.path_eval (sed_w1 l v) ⟨invC_is h0, h, trivial⟩, fun h => T.path_eval (sed_w0 l v) ⟨invC_is h0, h, trivial⟩⟩
/-! ### Mean -/
noncomputable def P7 : Cfg := ⟨Try.prog, lookG [(23, .val sumC6)], [], 0⟩
theorem P7_ok : P7.Ok := Cfg.ok ⟨sumC6_ok, trivial⟩ trivial
noncomputable def meaE : Eng.Spec := execS P7 noLoops 25
theorem meaE_ok : SpecOk Try.prog 25 meaE := execS_plain P7_ok mixed Try.func25 (by kernel_rfl) (by kernel_rfl)
def tkA (l : List TV) : List TV := List.take l.length (List.drop 0 l)
theorem tkA_is (l : List TV) : tkA l = l := by unfold tkA; rw [List.drop_zero, List.take_length]
theorem mea_w0 (l : List TV) (w g t : Int) : T.path [true, true, true] (T.anon (meaE [.orow 35 KR2 l, Eng.iv w, Eng.iv g, Eng.iv t])) = some ([(decide (0 + l.length ≤ l.length), true), (badS w g t, true), ((0 : Int) == 0, true)], Eng.iv 0) := by kernel_rfl
theorem mea_w1 (l : List TV) (w g t : Int) : T.path [true, false, true, true] (T.anon (meaE [.orow 35 KR2 l, Eng.iv w, Eng.iv g, Eng.iv t])) = some ([(decide (0 + l.length ≤ l.length), true), (badS w g t, false), (pB (okL (tkA l) t), true), (((plV w g t (tkA l)).length : Int) == 0, true)], Eng.iv 0) := by kernel_rfl
theorem mea_w2 (l : List TV) (w g t : Int) : T.path [true, false, true, false, false] (T.anon (meaE [.orow 35 KR2 l, Eng.iv w, Eng.iv g, Eng.iv t])) = some ([(decide (0 + l.length ≤ l.length), true), (badS w g t, false), (pB (okL (tkA l) t), true), (((plV w g t (tkA l)).length : Int) == 0, false), (((plV w g t (tkA l)).length : Int) == 0, false)], Eng.iv (wI (Int.tdiv (Mil.cutV (sv (plV w g t (tkA l)))) ((plV w g t (tkA l)).length : Int)))) := by kernel_rfl
noncomputable def meaC6 : Eng.Spec
  | [.orow ty [.int .i64, .int .i64] l, .s (.int .i64 w), .s (.int .i64 g), .s (.int .i64 t)] => if ty = 35 then .ite none (badS w g t) (.ret (Eng.iv 0)) (.ite none (pB (okL l t)) (.ret (Eng.iv (mnV (Mil.cutV (sv (plV w g t l))) ((plV w g t l).length : Int)))) .fail) else .fail
  | _ => .fail
theorem mea_run0 (l : List TV) (w g t : Int) (hb : badS w g t = true) : (meaE [.orow 35 KR2 l, Eng.iv w, Eng.iv g, Eng.iv t]).eval = some (Eng.iv 0) := by
  rw [← T.eval_anon (t := meaE _)]
  exact T.path_eval (mea_w0 l w g t) ⟨decide_eq_true (by omega), hb, rfl, trivial⟩
theorem mea_run1 (l : List TV) (w g t : Int) (hb : badS w g t = false) (hc : pB (okL l t) = true) : (meaE [.orow 35 KR2 l, Eng.iv w, Eng.iv g, Eng.iv t]).eval = some (Eng.iv (mnV (Mil.cutV (sv (plV w g t l))) ((plV w g t l).length : Int))) := by
  rw [← T.eval_anon (t := meaE _)]
  have hle : decide (0 + l.length ≤ l.length) = true := decide_eq_true (by omega)
  have w1 := mea_w1 l w g t
  have w2 := mea_w2 l w g t
  rw [tkA_is] at w1 w2
  unfold mnV
  cases hz : ((plV w g t l).length : Int) == 0 with
  | true => exact T.path_eval w1 ⟨hle, hb, hc, hz, trivial⟩
  | false => exact T.path_eval w2 ⟨hle, hb, hc, hz, hz, trivial⟩
theorem meaC6_ok : SpecOk Try.prog 25 meaC6 := meaE_ok.of_eval fun args v h => by
  unfold meaC6 at h
  split at h
  · split at h
    · rename_i l w g t ht
      subst ht
      cases hb : badS w g t with
      | true =>
        rw [T.eval, hb] at h
        obtain rfl := Option.some.inj h
        exact mea_run0 l w g t hb
      | false =>
        rw [T.eval, hb] at h
        obtain ⟨hc, h⟩ := ite_some h
        obtain rfl := Option.some.inj h
        exact mea_run1 l w g t hb hc
    · cases h
  · cases h
end Go.Proofs.Ytebibmioiigplaa.Pla

/- Layer 6: the document's Plain. -/
namespace Go.Proofs.Ytebibmioiigplaa.Pla
open Go.Eng Go.RowKit Mil Rin
set_option linter.unusedVariables false
set_option linter.unusedSimpArgs false
noncomputable def P8 : Cfg := ⟨Try.prog, lookG [(82, .obj newDS), (83, .obj puS), (84, .obj suS)], [], 0⟩
theorem P8_ok : P8.Ok := Cfg.ok ⟨newDS_ok, puS_ok, suS_ok, trivial⟩ trivial
noncomputable def lpPd : Code := loopAt Try.prog 24 0
structure PPd where (k : Nat) (l : List (Int × Int)) (t : Int) (w0 : Int) (g0 : Int)
structure APd where (w : Int) (g : Int) (n : Nat) (nw : Int) (ov : Bool) (ld : List (Int × Int)) (i : Int)
abbrev SPd : List (Nat × Src) := [(0, .same), (1, .same), (2000, .cell 1 2)]
def vsPd (p : PPd) (a : APd) : List V := [.sub 0 2 0 p.k, iv p.t, .ptr 1 0, iv a.i]
def bsPd (p : PPd) (a : APd) : List Blk := [.lst false 35 [.int .i64, .int .i64] p.l, .cells 149 [iv a.w, iv a.g, .sub 2000 2 0 a.n, iv a.nw, bv a.ov], .lst true 35 [.int .i64, .int .i64] a.ld]
noncomputable def FPd (p : PPd) (a : APd) : St := mkSt [0,3,10,11] (keysR SPd) 2001 40 (vsPd p a) (bsPd p a)
noncomputable def rdPd (p : PPd) (a : APd) : T (Ex × St) := T.anon (roundN P8 noLoops lpPd [0,3,10,11] SPd 2000 2001 (mkSt [0,3,10,11] (keysR SPd) 2001 40 (vsPd p a) (bsPd p a)))
def decPd : List V → List Blk → Option (PPd × APd)
  | [.sub 0 2 0 k, .s (.int .i64 t), .ptr 1 0, .s (.int .i64 i)], [.lst false tt0 [.int .i64, .int .i64] l, .cells tt1 [.s (.int .i64 w), .s (.int .i64 g), .sub 2000 2 0 n, .s (.int .i64 nw), .s (.bool ov)], .lst true tt2 [.int .i64, .int .i64] ld] =>
    if tt0 = 35 then if tt1 = 149 then if tt2 = 35 then some (⟨k, l, t, w, g⟩, ⟨w, g, n, nw, ov, ld, i⟩) else none else none else none
  | _, _ => none
theorem decPd_ok (l : List V) (b : List Blk) (d : PPd × APd) (h : decPd l b = some d) : l = vsPd d.1 d.2 ∧ b = bsPd d.1 d.2 := by
  unfold decPd at h
  split at h
  · obtain ⟨e0, h⟩ := ite_some0 h
    obtain ⟨e1, h⟩ := ite_some0 h
    obtain ⟨e2, h⟩ := ite_some0 h
    subst e0 e1 e2
    cases h
    exact ⟨rfl, rfl⟩
  · cases h
noncomputable def rgPd : Nat := (firstReg lpPd).getD 0
theorem rgPd_is : firstReg lpPd = some rgPd := by kernel_rfl
end Go.Proofs.Ytebibmioiigplaa.Pla

/- Layer 6: the document's Plain is the program's Sum; PlainAsks. -/
namespace Go.Proofs.Ytebibmioiigplaa.Pla
open Go.Eng Go.RowKit Mil Rin
set_option linter.unusedVariables false
set_option linter.unusedSimpArgs false
def stD (d : DS) (i : Int) : APd := ⟨d.w, d.g, d.n, d.nw, d.ov, d.l, i⟩
def hdD (p : PPd) (i : Int) : List (Bool × Bool) := [(decide (i < (p.k : Int)), true), (idR p.l p.k i, true), (ldR p.l i, true), (idR p.l p.k i, true), (ldR p.l i, true)]
theorem wayPd0 (p : PPd) (d : DS) (i : Int) : T.path [true, true, true, true, true, true] (rdPd p (stD d i)) = some (hdD p i ++ [(badA (xF p.l i).1 (xF p.l i).2, true)], (.normal, FPd p (stD d (wI (i + 1))))) := by kernel_rfl
theorem wayPd1 (p : PPd) (d : DS) (i : Int) : T.path [true, true, true, true, true, false, true, true] (rdPd p (stD d i)) = some (hdD p i ++ putDC d (xF p.l i).1 (xF p.l i).2 true, (.normal, FPd p (stD d (wI (i + 1))))) := by kernel_rfl
theorem wayPd2 (p : PPd) (d : DS) (i : Int) : T.path [true, true, true, true, true, false, true, false] (rdPd p (stD d i)) = some (hdD p i ++ putDC d (xF p.l i).1 (xF p.l i).2 false, (.normal, FPd p (stD (d.put (xF p.l i).1 (xF p.l i).2) (wI (i + 1))))) := by kernel_rfl
theorem wayPdx (p : PPd) (a : APd) : T.path [false] (rdPd p a) = some ([(decide (a.i < (p.k : Int)), false)], (.exit 0, FPd p a)) := by kernel_rfl
def dsP (a : APd) : DS := ⟨a.w, a.g, a.n, a.nw, a.ov, a.ld⟩
structure okPd (p : PPd) (a : APd) : Prop where
  k : p.k = p.l.length
  ln : p.k < 100000
  v1 : ∀ x ∈ p.l, x.2 ≤ 9223372036854775807
  g1 : 1 ≤ p.g0
  g2 : p.g0 ≤ p.w0
  w1 : p.w0 ≤ 600
  i0 : 0 ≤ a.i
  i1 : a.i ≤ p.k
  d : DocR p.w0 p.g0 (p.l.take a.i.toNat) (dsP a)
  n : a.n = a.ld.length
def goPd (p : PPd) (a : APd) : Bool := decide (a.i < (p.k : Int))
def muPd (p : PPd) (a : APd) : Nat := (p.k - a.i).toNat
theorem nN_pos {w g : Int} (h1 : 1 ≤ g) (h2 : g ≤ w) (h3 : w ≤ 600) : 0 < nN w g := (nN_bd h1 h2 h3).1
theorem stepPd (p : PPd) (a : APd) (h : okPd p a) (hg : goPd p a = true) : ∃ b, stepC okPd rdPd FPd muPd p a b := by
  obtain ⟨hk, hl, v1, g1, g2, w1, i0, i1, hd, hn⟩ := h
  have hi : a.i < (p.k : Int) := of_decide_eq_true hg
  have hw : wI (a.i + 1) = a.i + 1 := wrap64_in (by omega) (by omega)
  obtain ⟨x1, x2⟩ := idR_is (g := p.l) (k := p.k) (i := a.i) hk i0 hi
  have hlt : a.i.toNat < p.l.length := by omega
  have hx := xF_at i0 hlt
  have tk := take_next i0 hlt
  have hv := v1 _ (List.getElem_mem hlt)
  have hH : allSay (hdD p a.i) := ⟨hg, x1, x2, x1, x2, trivial⟩
  have hdg : (dsP a).g = p.g0 := hd.fg
  have hdw : (dsP a).w = p.w0 := hd.fw
  have tl : (p.l.take a.i.toNat).length ≤ 100000 := by rw [List.length_take]; omega
  have okd := hd.okd g1 g2 w1 tl (fun x hx => v1 x (List.mem_of_mem_take hx))
  have ldl : (dsP a).l.length < 100000 := by
    rw [hd.fl]
    have q1 := List.length_filter_le (kpD p.w0 p.g0 (nwB p.g0 (newV (p.l.take a.i.toNat)))) ((p.l.take a.i.toNat).filter gdT)
    have q2 := List.length_filter_le gdT (p.l.take a.i.toNat)
    rw [List.length_take] at q2; omega
  have fin : ∀ d' : DS, DocR p.w0 p.g0 (p.l.take (a.i + 1).toNat) d' → d'.n = d'.l.length → okPd p (stD d' (wI (a.i + 1))) ∧ muPd p (stD d' (wI (a.i + 1))) < muPd p a := by
    intro d' h1 h2
    refine ⟨⟨hk, hl, v1, g1, g2, w1, by show 0 ≤ wI (a.i + 1); rw [hw]; omega, by show wI (a.i + 1) ≤ p.k; rw [hw]; omega, by show DocR p.w0 p.g0 (p.l.take (wI (a.i + 1)).toNat) d'; rw [hw]; exact h1, h2⟩, ?_⟩
    show (p.k - wI (a.i + 1)).toNat < (p.k - a.i).toNat; rw [hw]; omega
  have way0 := wayPd0 p (dsP a) a.i
  have way1 := wayPd1 p (dsP a) a.i
  have way2 := wayPd2 p (dsP a) a.i
  rw [hx] at way0 way1 way2
  cases hb : badA p.l[a.i.toNat].1 p.l[a.i.toNat].2 with
  | true =>
    obtain ⟨k1, k2⟩ := fin (dsP a) (by rw [tk]; exact hd.bad hb) hn
    exact ⟨_, T.path_eval way0 (allSay_append hH ⟨hb, trivial⟩), k1, k2⟩
  | false =>
    have gd : pB (gdD (dsP a).w (dsP a).g (dsP a).n (dsP a).nw (dsP a).l p.l[a.i.toNat].1 p.l[a.i.toNat].2) = true := pB_is ⟨okd, hn, ldl, hv⟩
    cases hq : decide ((nN (dsP a).w (dsP a).g : Nat) ≤ (dsP a).nw - Int.tdiv p.l[a.i.toNat].1 (dsP a).g) with
    | true =>
      have hq' := of_decide_eq_true hq
      rw [hdg, hdw] at hq'
      obtain ⟨k1, k2⟩ := fin (dsP a) (by rw [tk]; exact hd.late g1 hb hq' (nN_pos g1 g2 w1)) hn
      exact ⟨_, T.path_eval way1 (allSay_append hH ⟨hb, gd, hq, trivial⟩), k1, k2⟩
    | false =>
      obtain ⟨k1, k2⟩ := fin ((dsP a).put p.l[a.i.toNat].1 p.l[a.i.toNat].2) (by rw [tk]; exact hd.put g1 hn hb) rfl
      exact ⟨_, T.path_eval way2 (allSay_append hH ⟨hb, gd, hq, trivial⟩), k1, k2⟩
theorem exPd (p : PPd) (a : APd) (h : okPd p a) (hg : goPd p a = false) : (rdPd p a).eval = some (.exit 0, FPd p a) := T.path_eval (wayPdx p a) ⟨hg, trivial⟩
noncomputable def famPd : LSpec := famC [0,3,10,11] SPd 2000 2001 40 decPd okPd goPd rdPd FPd muPd (.exit 0)
theorem lpPd_ok : LoopOk P8 lpPd famPd := famC_ok (vs := vsPd) (bs := bsPd) P8_ok mixed (noLoops_ok _) decPd_ok (by simp) (fun _ _ => rfl) (fun _ _ => rfl) stepPd exPd
noncomputable def plaE : Eng.Spec := execS P8 (byReg [(rgPd, famPd)]) 24
theorem plaE_ok : SpecOk Try.prog 24 plaE := execS_loops P8_ok mixed Try.func24 (by kernel_rfl) (by kernel_rfl) (one_lp (by kernel_rfl) rgPd_is lpPd_ok)
def pPd (l : List TV) (w g t : Int) : PPd := ⟨l.length, l, t, w, g⟩
def aPd (w g : Int) : APd := ⟨w, g, 0, -1, false, [], 0⟩
noncomputable def ePd (l : List TV) (w g t : Int) : APd := endW (nxtC okPd goPd rdPd FPd muPd (pPd l w g t)) (aPd w g)
theorem pla_w0 (l : List TV) (w g t : Int) : T.path [true] (T.anon (plaE [.orow 35 KR2 l, Eng.iv w, Eng.iv g, Eng.iv t])) = some ([(badN w g, true)], .tup [Eng.iv 0, Eng.iv 0]) := by kernel_rfl
theorem pla_w1 (l : List TV) (w g t : Int) : T.path [false, true, true] (T.anon (plaE [.orow 35 KR2 l, Eng.iv w, Eng.iv g, Eng.iv t])) = some ([(badN w g, false), (invC okPd (pPd l w g t) (aPd w g), true),
   (pB (OkD (ePd l w g t).w (ePd l w g t).g (ePd l w g t).nw (ePd l w g t).ld ∧ (ePd l w g t).n = (ePd l w g t).ld.length ∧ t ≤ 9223372036854775807), true)], .tup [Eng.iv (smS (dsP (ePd l w g t)) t), Eng.iv (smN (dsP (ePd l w g t)) t)]) := by kernel_rfl
theorem pla_run (l : List TV) (w g t : Int) (hN : badN w g = false) (hl : okL l t) (hl2 : l.length < 100000) : (plaE [.orow 35 KR2 l, Eng.iv w, Eng.iv g, Eng.iv t]).eval = some (.tup [Eng.iv (Mil.cutV (sv (wD w g t (dsP (ePd l w g t)).l))), Eng.iv ((wD w g t (dsP (ePd l w g t)).l).length : Int)]) ∧ DocR w g l (dsP (ePd l w g t)) := by
  obtain ⟨g1, g2, w1⟩ := badN_false.1 hN
  obtain ⟨l1, l2, l3⟩ := hl
  have h0 : okPd (pPd l w g t) (aPd w g) := ⟨rfl, hl2, l3, g1, g2, w1, Int.le_refl _, by show (0 : Int) ≤ l.length; omega, DocR.new, rfl⟩
  obtain ⟨k1, k2⟩ := endC stepPd h0
  have k1 : okPd (pPd l w g t) (ePd l w g t) := k1
  have k2 : goPd (pPd l w g t) (ePd l w g t) = false := k2
  have q1 : (ePd l w g t).i ≤ (l.length : Int) := k1.i1
  have q2 : ¬ (ePd l w g t).i < (l.length : Int) := of_decide_eq_false k2
  have q3 : (ePd l w g t).i.toNat = l.length := by omega
  have dd := k1.d
  rw [q3] at dd
  have dd : DocR w g l (dsP (ePd l w g t)) := by
    have e : (pPd l w g t).l.take l.length = l := List.take_length
    rw [e] at dd; exact dd
  refine ⟨?_, dd⟩
  rw [← T.eval_anon (t := plaE _)]
  refine (T.path_eval (pla_w1 l w g t) ⟨hN, invC_is h0, pB_is ⟨dd.okd g1 g2 w1 l1 l3, k1.n, l2⟩, trivial⟩).trans ?_
  unfold smS smN
  rw [dd.fw, dd.fg]
/-- as the program's Sum -/
noncomputable def plaC : Eng.Spec
  | [.orow ty [.int .i64, .int .i64] l, .s (.int .i64 w), .s (.int .i64 g), .s (.int .i64 t)] => if ty = 35 then .ite none (badS w g t) (.ite none (pB (okL l t ∧ l.length < 100000)) (.ret (.tup [Eng.iv 0, Eng.iv 0])) .fail) (.ite none (pB (okL l t ∧ l.length < 100000)) (.ret (.tup [Eng.iv (Mil.cutV (sv (plV w g t l))), Eng.iv ((plV w g t l).length : Int)])) .fail) else .fail
  | _ => .fail
theorem badS_T {w g t : Int} (h : badS w g t = true) (hn : badN w g = false) : t < 0 := by
  unfold badS at h; rw [hn] at h; exact of_decide_eq_true h
theorem badS_F {w g t : Int} (h : badS w g t = false) : badN w g = false ∧ 0 ≤ t := by
  unfold badS at h
  cases hn : badN w g with
  | true => rw [hn] at h; cases h
  | false => rw [hn] at h; exact ⟨rfl, by have := of_decide_eq_false h; omega⟩
theorem plaC_ok : SpecOk Try.prog 24 plaC := plaE_ok.of_eval fun args v h => by
  unfold plaC at h
  split at h
  · split at h
    · rename_i l w g t ht
      subst ht
      cases hb : badS w g t with
      | true =>
        rw [T.eval, hb] at h
        obtain ⟨hc, h⟩ := ite_some h
        obtain rfl := Option.some.inj h
        obtain ⟨hl, hl2⟩ := pB_ok hc
        cases hn : badN w g with
        | true =>
          rw [← T.eval_anon (t := plaE _)]
          exact T.path_eval (pla_w0 l w g t) ⟨hn, trivial⟩
        | false =>
          have ht := badS_T hb hn
          refine ((pla_run l w g t hn hl hl2).1).trans ?_
          rw [wD_neg (by omega)]; rfl
      | false =>
        rw [T.eval, hb] at h
        obtain ⟨hc, h⟩ := ite_some h
        obtain rfl := Option.some.inj h
        obtain ⟨hl, hl2⟩ := pB_ok hc
        obtain ⟨hn, t0⟩ := badS_F hb
        obtain ⟨r1, r2⟩ := pla_run l w g t hn hl hl2
        refine r1.trans ?_
        have e := r2.sum (badN_false.1 hn).1 t0
        rw [r2.fw, r2.fg] at e
        rw [e]
    · cases h
  · cases h
noncomputable def P9 : Cfg := ⟨Try.prog, lookG [(23, .val sumC6), (24, .val plaC), (25, .val meaC6), (26, .val newC), (27, .val newC), (28, .val styC), (29, .val styC), (22, .val yesR)], [], 0⟩
theorem P9_ok : P9.Ok := Cfg.ok ⟨sumC6_ok, plaC_ok, meaC6_ok, newC_ok, newD_ok, styC_ok, sedC_ok, told6_ok, trivial⟩ trivial
noncomputable def askR (l : List TV) (w g t v : Int) : T V := execS P9 noLoops 3 [.orow 35 KR2 l, Eng.iv w, Eng.iv g, Eng.iv t, Eng.iv v]
end Go.Proofs.Ytebibmioiigplaa.Pla

