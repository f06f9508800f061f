import Derived.Test.YtebibmioiigplaaGreatGG
/- Layer 5: the document's ring: its small functions. -/
namespace Go.Proofs.YtebibmioiigplaaGreat.Rin
open Go.Eng Go.RowKit Mil
set_option linter.unusedVariables false
set_option linter.unusedSimpArgs false
abbrev KR : List K := [.int .i64, .int .i64]
def dB (w g : Int) (v : V) (nw : Int) (ov : Bool) : Blk := .cells 82 [iv w, iv g, v, iv nw, bv ov]
def dH (w g : Int) (n : Nat) (nw : Int) (ov : Bool) (l : List Rec) : Heap := [(0, dB w g (.sub 1 2 0 n) nw ov), (1, .lst true 105 KR l)]
noncomputable def nD0 : Eng.Obj := execO R0 noLoops 64
theorem nD0_ok : ObjOk Tryz.prog 64 nD0 := execO_plain R0_ok mixed Tryz.func64 (by kernel_rfl) (by kernel_rfl)
noncomputable def bkD0 : Eng.Obj := execO R0 noLoops 63
theorem bkD0_ok : ObjOk Tryz.prog 63 bkD0 := execO_plain R0_ok mixed Tryz.func63 (by kernel_rfl) (by kernel_rfl)
noncomputable def newD0 : Eng.Obj := execO R0 noLoops 60
theorem newD0_ok : ObjOk Tryz.prog 60 newD0 := execO_plain R0_ok mixed Tryz.func60 (by kernel_rfl) (by kernel_rfl)
def nnI (w g : Int) : Int := IntKind.wrap .i64 (Int.tdiv (IntKind.wrap .i64 (IntKind.wrap .i64 (w + g) - 1)) g)
def nS : List V → Heap → T V
  | [.ptr 0 0], [(0, .cells 82 [.s (.int .i64 w), .s (.int .i64 g), .sub 1 2 0 _, .s (.int .i64 _), .s (.bool _)]), (1, .lst true _ _ _)] => .ite none (g == 0) .fail (.ret (.s (.int .i64 (nnI w g))))
  | _, _ => .fail
theorem nWay (w g : Int) (n : Nat) (nw : Int) (ov c : Bool) : T.path [false] (T.anon (nD0 [.ptr 0 0] [(0, .ro 82 [iv w, iv g, .sub 1 2 0 n, iv nw, bv ov]), (1, .leaf c)])) = some ([(g == 0, false)], (iv (nnI w g), [])) := by kernel_rfl
theorem nS_ok : SeeOk Tryz.prog 64 nS := nD0_ok.peep nS fun args hp v h _ c => by
  unfold nS at h
  split at h
  · rename_i w g n nw ov _ _ _
    rw [T.eval] at h
    cases hg : g == 0 with
    | true => rw [hg] at h; cases h
    | false =>
      rw [hg] at h
      obtain rfl := Option.some.inj h
      rw [← T.eval_anon (t := nD0 _ _)]
      exact T.path_eval (nWay w g n nw ov (c 1)) ⟨hg, trivial⟩
  · cases h
def bkS : List V → Heap → T V
  | [.ptr 0 0, .s (.int .i64 t)], [(0, .cells 82 [.s (.int .i64 _), .s (.int .i64 g), .sub 1 2 0 _, .s (.int .i64 _), .s (.bool _)]), (1, .lst true _ _ _)] => .ite none (g == 0) .fail (.ret (.s (.int .i64 (IntKind.wrap .i64 (Int.tdiv t g)))))
  | _, _ => .fail
theorem bWay (t w g : Int) (n : Nat) (nw : Int) (ov c : Bool) : T.path [false] (T.anon (bkD0 [.ptr 0 0, iv t] [(0, .ro 82 [iv w, iv g, .sub 1 2 0 n, iv nw, bv ov]), (1, .leaf c)])) = some ([(g == 0, false)], (iv (IntKind.wrap .i64 (Int.tdiv t g)), [])) := by kernel_rfl
theorem bkS_ok : SeeOk Tryz.prog 63 bkS := bkD0_ok.peep bkS fun args hp v h _ c => by
  unfold bkS at h
  split at h
  · rename_i t w g n nw ov _ _ _
    rw [T.eval] at h
    cases hg : g == 0 with
    | true => rw [hg] at h; cases h
    | false =>
      rw [hg] at h
      obtain rfl := Option.some.inj h
      rw [← T.eval_anon (t := bkD0 _ _)]
      exact T.path_eval (bWay t w g n nw ov (c 1)) ⟨hg, trivial⟩
  · cases h
noncomputable def D1 : Cfg := ⟨Tryz.prog, lookG [(64, .see nS), (63, .see bkS)], [], 0⟩
theorem D1_ok : D1.Ok := Cfg.ok ⟨nS_ok, bkS_ok, trivial⟩ trivial
end Go.Proofs.YtebibmioiigplaaGreat.Rin

/- Layer 5: the document's ring: its loops' states. -/
namespace Go.Proofs.YtebibmioiigplaaGreat.Rin
open Go.Eng Go.RowKit Mil
set_option linter.unusedVariables false
set_option linter.unusedSimpArgs false
noncomputable def lpFo : Code := loopAt Tryz.prog 65 0
structure PFo where (w : Int) (g : Int) (n : Nat) (nw : Int) (ov : Bool) (l : List (Int × Int))
structure AFo where (m : Nat) (k : List (Int × Int)) (j : Int)
abbrev SFo : List (Nat × Src) := [(0, .same), (1, .same), (1000, .tmp 2)]
def vsFo (p : PFo) (a : AFo) : List V := [.ptr 0 0, .sub 1000 2 0 a.m, iv a.j]
def bsFo (p : PFo) (a : AFo) : List Blk := [.cells 82 [iv p.w, iv p.g, .sub 1 2 0 p.n, iv p.nw, bv p.ov], .lst true 105 [.int .i64, .int .i64] p.l, .lst true 105 [.int .i64, .int .i64] a.k]
noncomputable def FFo (p : PFo) (a : AFo) : St := mkSt [0,2,3] (keysR SFo) 1001 45 (vsFo p a) (bsFo p a)
noncomputable def rdFo (p : PFo) (a : AFo) : T (Ex × St) := T.anon (roundN D1 noLoops lpFo [0,2,3] SFo 1000 1001 (mkSt [0,2,3] (keysR SFo) 1001 45 (vsFo p a) (bsFo p a)))
def decFo : List V → List Blk → Option (PFo × AFo)
  | [.ptr 0 0, .sub 1000 2 0 m, .s (.int .i64 j)], [.cells tt0 [.s (.int .i64 w), .s (.int .i64 g), .sub 1 2 0 n, .s (.int .i64 nw), .s (.bool ov)], .lst true tt1 [.int .i64, .int .i64] l, .lst true tt2 [.int .i64, .int .i64] k] =>
    if tt0 = 82 then if tt1 = 105 then if tt2 = 105 then some (⟨w, g, n, nw, ov, l⟩, ⟨m, k, j⟩) else none else none else none
  | _, _ => none
theorem decFo_ok (l : List V) (b : List Blk) (d : PFo × AFo) (h : decFo l b = some d) : l = vsFo d.1 d.2 ∧ b = bsFo d.1 d.2 := by
  unfold decFo at h
  split at h
  · obtain ⟨e0, h⟩ := ite_some0 h
    obtain ⟨e1, h⟩ := ite_some0 h
    obtain ⟨e2, h⟩ := ite_some0 h
    subst e0 e1 e2
    cases h
    exact ⟨rfl, rfl⟩
  · cases h
noncomputable def rgFo : Nat := (firstReg lpFo).getD 0
theorem rgFo_is : firstReg lpFo = some rgFo := by kernel_rfl
noncomputable def D2 : Cfg := ⟨Tryz.prog, lookG [(64, .see nS), (63, .see bkS), (106, .val Sta.addS)], [], 0⟩
theorem D2_ok : D2.Ok := Cfg.ok ⟨nS_ok, bkS_ok, Sta.refadd_ok, trivial⟩ trivial
noncomputable def lpDs : Code := loopAt Tryz.prog 75 0
structure PDs where (w : Int) (g : Int) (n : Nat) (nw : Int) (l : List (Int × Int)) (t : Int) (ov0 : Bool)
structure ADs where (ov : Bool) (s : Int) (c : Int) (j : Int)
abbrev SDs : List (Nat × Src) := [(0, .same), (1, .same)]
def vsDs (p : PDs) (a : ADs) : List V := [.ptr 0 0, iv p.t, iv a.s, iv a.c, iv a.j]
def bsDs (p : PDs) (a : ADs) : List Blk := [.cells 82 [iv p.w, iv p.g, .sub 1 2 0 p.n, iv p.nw, bv a.ov], .lst true 105 [.int .i64, .int .i64] p.l]
noncomputable def FDs (p : PDs) (a : ADs) : St := mkSt [0,1,6,7,8] (keysR SDs) 100 76 (vsDs p a) (bsDs p a)
noncomputable def rdDs (p : PDs) (a : ADs) : T (Ex × St) := T.anon (roundN D2 noLoops lpDs [0,1,6,7,8] SDs 100 100 (mkSt [0,1,6,7,8] (keysR SDs) 100 76 (vsDs p a) (bsDs p a)))
def decDs : List V → List Blk → Option (PDs × ADs)
  | [.ptr 0 0, .s (.int .i64 t), .s (.int .i64 s), .s (.int .i64 c), .s (.int .i64 j)], [.cells tt0 [.s (.int .i64 w), .s (.int .i64 g), .sub 1 2 0 n, .s (.int .i64 nw), .s (.bool ov)], .lst true tt1 [.int .i64, .int .i64] l] =>
    if tt0 = 82 then if tt1 = 105 then some (⟨w, g, n, nw, l, t, ov⟩, ⟨ov, s, c, j⟩) else none else none
  | _, _ => none
theorem decDs_ok (l : List V) (b : List Blk) (d : PDs × ADs) (h : decDs l b = some d) : l = vsDs d.1 d.2 ∧ b = bsDs d.1 d.2 := by
  unfold decDs at h
  split at h
  · obtain ⟨e0, h⟩ := ite_some0 h
    obtain ⟨e1, h⟩ := ite_some0 h
    subst e0 e1
    cases h
    exact ⟨rfl, rfl⟩
  · cases h
noncomputable def rgDs : Nat := (firstReg lpDs).getD 0
theorem rgDs_is : firstReg lpDs = some rgDs := by kernel_rfl
end Go.Proofs.YtebibmioiigplaaGreat.Rin

/- Layer 5: the document's ring: the rounds of its loops. -/
namespace Go.Proofs.YtebibmioiigplaaGreat.Rin
open Go.Eng Go.RowKit Mil
set_option linter.unusedVariables false
set_option linter.unusedSimpArgs false
abbrev TV := Int × Int
def xF (l : List TV) (j : Int) : TV := l.getD (0 + j.toNat) (0, 0)
theorem xF_at {l : List TV} {j : Int} (h0 : 0 ≤ j) (h : j.toNat < l.length) : xF l j = l[j.toNat] := getD0 rfl h
/-- what the document's ring may be -/
structure OkD (w g : Int) (nw : Int) (l : List TV) : Prop where
  g1 : 1 ≤ g
  g2 : g ≤ w
  w1 : w ≤ 600
  n0 : -1 ≤ nw
  n1 : nw ≤ 1099511627776
  ln : l.length ≤ 100000
  el : ∀ x ∈ l, 0 ≤ x.1 ∧ x.1 ≤ 1099511627776 ∧ 0 ≤ x.2 ∧ x.2 ≤ 9223372036854775807
theorem nnI_is {w g : Int} (h1 : 1 ≤ g) (h2 : g ≤ w) (h3 : w ≤ 600) : nnI w g = (nN w g : Nat) := by
  obtain ⟨n0, n1, n2, _⟩ := nN_bd h1 h2 h3
  unfold nnI
  rw [wrap64_in (n := w + g) (by omega) (by omega), wrap64_in (n := w + g - 1) (by omega) (by omega), ← n2]
  exact wrap64_in (by omega) (by omega)
def kpD (w g nw : Int) (x : TV) : Bool := decide (nw - Int.tdiv x.1 g < (nN w g : Nat))
def dFo (p : PFo) (a : AFo) : Int := IntKind.wrap .i64 (p.nw - IntKind.wrap .i64 (Int.tdiv (xF p.l a.j).1 p.g))
theorem wayFo0 (p : PFo) (a : AFo) : T.path [true, true, true, false, false, false] (rdFo p a) = some ([(decide (a.j < (p.n : Int)), true), (idR p.l p.n a.j, true), (ldR p.l a.j, true), (p.g == 0, false), (p.g == 0, false), (decide (dFo p a < nnI p.w p.g), false)], (.normal, FFo p ⟨a.m, a.k, IntKind.wrap .i64 (a.j + 1)⟩)) := by kernel_rfl
theorem wayFo1 (p : PFo) (a : AFo) : T.path [true, true, true, false, false, true, true, true, true] (rdFo p a) = some ([(decide (a.j < (p.n : Int)), true), (idR p.l p.n a.j, true), (ldR p.l a.j, true), (p.g == 0, false), (p.g == 0, false), (decide (dFo p a < nnI p.w p.g), true), (idR p.l p.n a.j, true), (ldR p.l a.j, true), (apC a.m a.k ((xF p.l a.j).1, (xF p.l a.j).2), true)],
   (.normal, FFo p ⟨a.m + [((xF p.l a.j).1, (xF p.l a.j).2)].length, List.take a.m a.k ++ [((xF p.l a.j).1, (xF p.l a.j).2)], IntKind.wrap .i64 (a.j + 1)⟩)) := by kernel_rfl
theorem wayFox (p : PFo) (a : AFo) : T.path [false] (rdFo p a) = some ([(decide (a.j < (p.n : Int)), false)], (.exit 0, FFo p a)) := by kernel_rfl
structure okFo (p : PFo) (a : AFo) : Prop where
  d : OkD p.w p.g p.nw p.l
  n : p.n = p.l.length
  j0 : 0 ≤ a.j
  j1 : a.j ≤ p.n
  m : a.m = a.k.length
  k : a.k = (p.l.take a.j.toNat).filter (kpD p.w p.g p.nw)
def goFo (p : PFo) (a : AFo) : Bool := decide (a.j < (p.n : Int))
def muFo (p : PFo) (a : AFo) : Nat := (p.n - a.j).toNat
theorem tdiv_w {t g : Int} (h0 : 0 ≤ t) (h1 : t ≤ 9223372036854775807) (hg : 1 ≤ g) : IntKind.wrap .i64 (Int.tdiv t g) = Int.tdiv t g := by
  obtain ⟨q1, q2⟩ := tdiv_bd h0 hg
  exact wrap64_in (by omega) (by omega)
theorem stepFo (p : PFo) (a : AFo) (h : okFo p a) (hg : goFo p a = true) : ∃ b, stepC okFo rdFo FFo muFo p a b := by
  obtain ⟨d, hn, j0, j1, hm, hk⟩ := h
  have hj : a.j < (p.n : Int) := of_decide_eq_true hg
  have hl := d.ln
  have e1 : IntKind.wrap .i64 (a.j + 1) = a.j + 1 := wrap64_in (by omega) (by omega)
  obtain ⟨x1, x2⟩ := idR_is (g := p.l) (k := p.n) (i := a.j) hn j0 hj
  have hlt : a.j.toNat < p.l.length := by omega
  have hx := xF_at j0 hlt
  obtain ⟨y1, y2, y3, y4⟩ := d.el _ (List.getElem_mem hlt)
  obtain ⟨q1, q2⟩ := tdiv_bd y1 d.g1
  have g0 : (p.g == 0) = false := by rw [beq_eq_false_iff_ne]; have := d.g1; omega
  have n0 := d.n0
  have n1 := d.n1
  have hd : decide (dFo p a < nnI p.w p.g) = kpD p.w p.g p.nw p.l[a.j.toNat] := by
    unfold dFo kpD
    rw [hx, tdiv_w y1 (by omega) d.g1, nnI_is d.g1 d.g2 d.w1, wrap64_in (by omega) (by omega)]
  have tk := take_next j0 hlt
  have mu : (p.n - IntKind.wrap .i64 (a.j + 1)).toNat < (p.n - a.j).toNat := by rw [e1]; omega
  have f3 : 0 ≤ IntKind.wrap .i64 (a.j + 1) := by rw [e1]; omega
  have f4 : IntKind.wrap .i64 (a.j + 1) ≤ p.n := by rw [e1]; omega
  have kl : a.k.length ≤ 100000 := by rw [hk]; have := List.length_filter_le (kpD p.w p.g p.nw) (p.l.take a.j.toNat); rw [List.length_take] at this; omega
  cases hkp : kpD p.w p.g p.nw p.l[a.j.toNat] with
  | false =>
    refine ⟨_, T.path_eval (wayFo0 p a) ⟨hg, x1, x2, g0, g0, by rw [hd]; exact hkp, trivial⟩, ⟨d, hn, f3, f4, hm, ?_⟩, mu⟩
    show a.k = (p.l.take (IntKind.wrap .i64 (a.j + 1)).toNat).filter _
    rw [e1, tk, List.filter_append, ← hk, List.filter_cons, hkp]; simp
  | true =>
    refine ⟨_, T.path_eval (wayFo1 p a) ⟨hg, x1, x2, g0, g0, by rw [hd]; exact hkp, x1, x2, apC_is _ hm kl, trivial⟩, ⟨d, hn, f3, f4, ?_, ?_⟩, mu⟩
    · show a.m + 1 = (List.take a.m a.k ++ [_]).length
      rw [hm, List.take_length, List.length_append]; rfl
    · show List.take a.m a.k ++ [((xF p.l a.j).1, (xF p.l a.j).2)] = (p.l.take (IntKind.wrap .i64 (a.j + 1)).toNat).filter _
      rw [e1, tk, List.filter_append, ← hk, List.filter_cons, hkp, hm, List.take_length, hx]; simp
theorem exFo (p : PFo) (a : AFo) (h : okFo p a) (hg : goFo p a = false) : (rdFo p a).eval = some (.exit 0, FFo p a) := T.path_eval (wayFox p a) ⟨hg, trivial⟩
noncomputable def famFo : LSpec := famC [0,2,3] SFo 1000 1001 45 decFo okFo goFo rdFo FFo muFo (.exit 0)
theorem lpFo_ok : LoopOk D1 lpFo famFo := famC_ok (vs := vsFo) (bs := bsFo) D1_ok mixed (noLoops_ok _) decFo_ok (by simp) (fun _ _ => rfl) (fun _ _ => rfl) stepFo exFo
noncomputable def foD0 : Eng.Obj := execO D1 (byReg [(rgFo, famFo)]) 65
theorem foD0_ok : ObjOk Tryz.prog 65 foD0 := execO_loops D1_ok mixed Tryz.func65 (by kernel_rfl) (by kernel_rfl) (one_lp (by kernel_rfl) rgFo_is lpFo_ok)
noncomputable def foD1 : Eng.Obj := fun args h0 => (foD0 args h0).bind (tidyO 1 h0)
theorem foD1_ok : ObjOk Tryz.prog 65 foD1 := foD0_ok.tidy 1
/-! ### Sum -/
def dDs (p : PDs) (a : ADs) : Int := IntKind.wrap .i64 (IntKind.wrap .i64 (Int.tdiv p.t p.g) - IntKind.wrap .i64 (Int.tdiv (xF p.l a.j).1 p.g))
def hdDs (p : PDs) (a : ADs) : List (Bool × Bool) := [(bif decide (a.j < (p.n : Int)) then decide (0 ≤ p.t) else false, true), (p.g == 0, false), (idR p.l p.n a.j, true), (ldR p.l a.j, true), (p.g == 0, false)]
def skDs (p : PDs) (a : ADs) : Bool := bif decide (dDs p a < 0) then true else decide (nnI p.w p.g ≤ dDs p a)
theorem wayDsa (p : PDs) (a : ADs) : T.path [true, false, true, true, false, true, true, true] (rdDs p a) = some (hdDs p a ++ [(decide (dDs p a < 0), true), (decide (dDs p a < 0), true), (decide (dDs p a < 0), true)], (.normal, FDs p ⟨a.ov, a.s, a.c, IntKind.wrap .i64 (a.j + 1)⟩)) := by kernel_rfl
theorem wayDsb (p : PDs) (a : ADs) : T.path [true, false, true, true, false, false, false, true] (rdDs p a) = some (hdDs p a ++ [(decide (dDs p a < 0), false), (p.g == 0, false), (skDs p a, true)], (.normal, FDs p ⟨a.ov, a.s, a.c, IntKind.wrap .i64 (a.j + 1)⟩)) := by kernel_rfl
theorem wayDsc (p : PDs) (a : ADs) : T.path [true, false, true, true, false, false, false, false, true, true, true] (rdDs p a) = some (hdDs p a ++ [(decide (dDs p a < 0), false), (p.g == 0, false), (skDs p a, false), (idR p.l p.n a.j, true), (ldR p.l a.j, true), (Sta.inR a.s && Sta.inR (xF p.l a.j).2, true)],
  (.normal, FDs p ⟨bif a.ov then true else Mil.cutE (a.s + (xF p.l a.j).2) != 0, Mil.cutV (a.s + (xF p.l a.j).2), IntKind.wrap .i64 (a.c + 1), IntKind.wrap .i64 (a.j + 1)⟩)) := by kernel_rfl
theorem wayDsx (p : PDs) (a : ADs) : T.path [false] (rdDs p a) = some ([(bif decide (a.j < (p.n : Int)) then decide (0 ≤ p.t) else false, false)], (.exit 0, FDs p a)) := by kernel_rfl
/-- is it summed? -/
def inD (w g t : Int) (x : TV) : Bool := decide (0 ≤ t) && (decide (0 ≤ Int.tdiv t g - Int.tdiv x.1 g) && decide (Int.tdiv t g - Int.tdiv x.1 g < (nN w g : Nat)))
structure okDs (p : PDs) (a : ADs) : Prop where
  d : OkD p.w p.g p.nw p.l
  t1 : p.t ≤ 9223372036854775807
  n : p.n = p.l.length
  j0 : 0 ≤ a.j
  j1 : a.j ≤ p.n
  s : a.s = Mil.cutV (sv ((p.l.take a.j.toNat).filter (inD p.w p.g p.t)))
  c : a.c = (((p.l.take a.j.toNat).filter (inD p.w p.g p.t)).length : Int)
  ov : a.ov = (p.ov0 || decide (tpI < sv ((p.l.take a.j.toNat).filter (inD p.w p.g p.t))))
  tn : p.t < 0 → a.j = 0
def goDs (p : PDs) (a : ADs) : Bool := bif decide (a.j < (p.n : Int)) then decide (0 ≤ p.t) else false
def muDs (p : PDs) (a : ADs) : Nat := (p.n - a.j).toNat
theorem cutE_ne {s v : Int} (h1 : 0 ≤ s) (h2 : 0 ≤ v) : (decide (tpI < s) || (Mil.cutE (Mil.cutV s + v) != 0)) = decide (tpI < s + v) := by
  rw [← cutE_add h1 h2]
  congr 1
  unfold Mil.cutE
  split <;> rfl
theorem stepDs (p : PDs) (a : ADs) (h : okDs p a) (hg : goDs p a = true) : ∃ b, stepC okDs rdDs FDs muDs p a b := by
  obtain ⟨d, t1, hn, j0, j1, hs, hc, hov, tn⟩ := h
  have hg0 : (decide (a.j < (p.n : Int)) && decide (0 ≤ p.t)) = true := by rw [← cond_and]; exact hg
  simp only [Bool.and_eq_true, decide_eq_true_eq] at hg0
  obtain ⟨hj, t0⟩ := hg0
  have hl := d.ln
  have e1 : IntKind.wrap .i64 (a.j + 1) = a.j + 1 := wrap64_in (by omega) (by omega)
  obtain ⟨x1, x2⟩ := idR_is (g := p.l) (k := p.n) (i := a.j) hn j0 hj
  have hlt : a.j.toNat < p.l.length := by omega
  have hx := xF_at j0 hlt
  obtain ⟨y1, y2, y3, y4⟩ := d.el _ (List.getElem_mem hlt)
  obtain ⟨q1, q2⟩ := tdiv_bd y1 d.g1
  obtain ⟨q3, q4⟩ := tdiv_bd t0 d.g1
  have g0 : (p.g == 0) = false := by rw [beq_eq_false_iff_ne]; have := d.g1; omega
  obtain ⟨n0, n1, _⟩ := nN_bd d.g1 d.g2 d.w1
  have hd : dDs p a = Int.tdiv p.t p.g - Int.tdiv p.l[a.j.toNat].1 p.g := by
    unfold dDs
    rw [hx, tdiv_w y1 (by omega) d.g1, tdiv_w t0 t1 d.g1, wrap64_in (by omega) (by omega)]
  have tk := take_next j0 hlt
  have mu : (p.n - IntKind.wrap .i64 (a.j + 1)).toNat < (p.n - a.j).toNat := by rw [e1]; omega
  have f3 : 0 ≤ IntKind.wrap .i64 (a.j + 1) := by rw [e1]; omega
  have f4 : IntKind.wrap .i64 (a.j + 1) ≤ p.n := by rw [e1]; omega
  have f5 : p.t < 0 → IntKind.wrap .i64 (a.j + 1) = 0 := fun h => by omega
  have hH : allSay (hdDs p a) := ⟨hg, g0, x1, x2, g0, trivial⟩
  have skip : inD p.w p.g p.t p.l[a.j.toNat] = false → okDs p ⟨a.ov, a.s, a.c, IntKind.wrap .i64 (a.j + 1)⟩ := by
    intro hi
    have e : (p.l.take (a.j + 1).toNat).filter (inD p.w p.g p.t) = (p.l.take a.j.toNat).filter (inD p.w p.g p.t) := by rw [tk, List.filter_append, List.filter_cons, hi]; simp
    refine ⟨d, t1, hn, f3, f4, ?_, ?_, ?_, f5⟩
    · show a.s = Mil.cutV (sv ((p.l.take (IntKind.wrap .i64 (a.j + 1)).toNat).filter _)); rw [e1, e]; exact hs
    · show a.c = (((p.l.take (IntKind.wrap .i64 (a.j + 1)).toNat).filter _).length : Int); rw [e1, e]; exact hc
    · show a.ov = (p.ov0 || decide (tpI < sv ((p.l.take (IntKind.wrap .i64 (a.j + 1)).toNat).filter _))); rw [e1, e]; exact hov
  have hin : inD p.w p.g p.t p.l[a.j.toNat] = (decide (0 ≤ dDs p a) && decide (dDs p a < (nN p.w p.g : Nat))) := by unfold inD; rw [hd, decide_eq_true t0]; rfl
  by_cases c1 : dDs p a < 0
  · exact ⟨_, T.path_eval (wayDsa p a) (allSay_append hH ⟨decide_eq_true c1, decide_eq_true c1, decide_eq_true c1, trivial⟩), skip (by rw [hin, decide_eq_false (show ¬ 0 ≤ dDs p a by omega)]; rfl), mu⟩
  · by_cases c2 : ((nN p.w p.g : Nat) : Int) ≤ dDs p a
    · exact ⟨_, T.path_eval (wayDsb p a) (allSay_append hH ⟨decide_eq_false c1, g0, by unfold skDs; rw [decide_eq_false c1, nnI_is d.g1 d.g2 d.w1, decide_eq_true c2]; rfl, trivial⟩), skip (by rw [hin, decide_eq_false (show ¬ dDs p a < (nN p.w p.g : Nat) by omega), Bool.and_false]), mu⟩
    · have hi : inD p.w p.g p.t p.l[a.j.toNat] = true := by rw [hin, decide_eq_true (show 0 ≤ dDs p a by omega), decide_eq_true (show dDs p a < (nN p.w p.g : Nat) by omega)]; rfl
      have e : (p.l.take (a.j + 1).toNat).filter (inD p.w p.g p.t) = (p.l.take a.j.toNat).filter (inD p.w p.g p.t) ++ [p.l[a.j.toNat]] := by rw [tk, List.filter_append, List.filter_cons, hi]; simp
      generalize hF : (p.l.take a.j.toNat).filter (inD p.w p.g p.t) = F at *
      have fn : 0 ≤ sv F := sv_nonneg fun z hz => by
        rw [← hF] at hz
        exact (d.el z (List.mem_of_mem_take (List.mem_filter.1 hz).1)).2.2.1
      have fl : F.length ≤ 100000 := by
        rw [← hF]
        have := List.length_filter_le (inD p.w p.g p.t) (p.l.take a.j.toNat)
        rw [List.length_take] at this; omega
      have se : sv (F ++ [p.l[a.j.toNat]]) = sv F + p.l[a.j.toNat].2 := by rw [sv_append, sv_cons, sv_nil, Int.add_zero]
      have cs := cutV_in fn
      have hR : (Sta.inR a.s && Sta.inR (xF p.l a.j).2) = true := by rw [hs, hx, Sta.inR_iff.2 ⟨by omega, cs.2⟩, Sta.inR_iff.2 ⟨by omega, y4⟩]; rfl
      refine ⟨_, T.path_eval (wayDsc p a) (allSay_append hH ⟨decide_eq_false c1, g0, by unfold skDs; rw [decide_eq_false c1, nnI_is d.g1 d.g2 d.w1, decide_eq_false c2]; rfl, x1, x2, hR, trivial⟩), ⟨d, t1, hn, f3, f4, ?_, ?_, ?_, f5⟩, mu⟩
      · show Mil.cutV (a.s + (xF p.l a.j).2) = Mil.cutV (sv ((p.l.take (IntKind.wrap .i64 (a.j + 1)).toNat).filter _))
        rw [e1, e, se, hs, hx, cutV_add fn y3]
      · show IntKind.wrap .i64 (a.c + 1) = (((p.l.take (IntKind.wrap .i64 (a.j + 1)).toNat).filter _).length : Int)
        rw [e1, e, hc, wrap64_in (by omega) (by omega)]; simp
      · show (bif a.ov then true else Mil.cutE (a.s + (xF p.l a.j).2) != 0) = (p.ov0 || decide (tpI < sv ((p.l.take (IntKind.wrap .i64 (a.j + 1)).toNat).filter _)))
        rw [e1, e, se, hov, hs, hx, ← cutE_ne fn y3]
        cases p.ov0 <;> cases decide (tpI < sv F) <;> rfl
theorem exDs (p : PDs) (a : ADs) (h : okDs p a) (hg : goDs p a = false) : (rdDs p a).eval = some (.exit 0, FDs p a) := T.path_eval (wayDsx p a) ⟨hg, trivial⟩
noncomputable def famDs : LSpec := famC [0,1,6,7,8] SDs 100 100 76 decDs okDs goDs rdDs FDs muDs (.exit 0)
theorem lpDs_ok : LoopOk D2 lpDs famDs := famC_ok (vs := vsDs) (bs := bsDs) D2_ok mixed (noLoops_ok _) decDs_ok (by simp) (fun _ _ => rfl) (fun _ _ => rfl) stepDs exDs
noncomputable def suD0 : Eng.Obj := execO D2 (byReg [(rgDs, famDs)]) 75
theorem suD0_ok : ObjOk Tryz.prog 75 suD0 := execO_loops D2_ok mixed Tryz.func75 (by kernel_rfl) (by kernel_rfl) (one_lp (by kernel_rfl) rgDs_is lpDs_ok)
end Go.Proofs.YtebibmioiigplaaGreat.Rin

/- Layer 5: the document's ring: contracts of forget and Sum. -/
namespace Go.Proofs.YtebibmioiigplaaGreat.Rin
open Go.Eng Go.RowKit Mil
set_option linter.unusedVariables false
set_option linter.unusedSimpArgs false
def dK (w g : Int) (nw : Int) (ov : Bool) (k : Nat) (l : List TV) : Heap := [(0, dB w g (.sub k 2 0 l.length) nw ov), (k, .lst true 105 KR l)]
theorem fin_take {l : List TV} {n : Nat} (h : n = l.length) (f : TV → Bool) : (l.take ((n : Int).toNat)).filter f = l.filter f := by
  rw [Int.toNat_natCast, h, List.take_length]
/-- what the document's ring sums at t -/
def wD (w g t : Int) (l : List TV) : List TV := l.filter (inD w g t)
theorem wD_neg {w g t : Int} {l : List TV} (h : ¬ 0 ≤ t) : wD w g t l = [] := by
  unfold wD
  rw [List.filter_eq_nil_iff]
  intro x _ hx
  unfold inD at hx
  rw [decide_eq_false h] at hx; cases hx
noncomputable def foS : Eng.Obj
  | [.ptr 0 0], [(0, .cells 82 [.s (.int .i64 w), .s (.int .i64 g), .sub 1 2 0 n, .s (.int .i64 nw), .s (.bool ov)]), (1, .lst true 105 [.int .i64, .int .i64] l)] =>
    .ite none (pB (OkD w g nw l ∧ n = l.length)) (.ret (.tup [], dK w g nw ov 1000 (l.filter (kpD w g nw)))) .fail
  | _, _ => .fail
theorem wayFS (w g : Int) (n : Nat) (nw : Int) (ov : Bool) (l : List TV) : T.path [true] (T.anon (foD1 [.ptr 0 0] (dH w g n nw ov l))) = some ([(invC okFo ⟨w, g, n, nw, ov, l⟩ ⟨0, [], 0⟩, true)], (.tup [], [(0, dB w g (.sub 1000 2 0 (endW (nxtC okFo goFo rdFo FFo muFo ⟨w, g, n, nw, ov, l⟩) ⟨0, [], 0⟩).m) nw ov), (1000, .lst true 105 KR (endW (nxtC okFo goFo rdFo FFo muFo ⟨w, g, n, nw, ov, l⟩) ⟨0, [], 0⟩).k)])) := by kernel_rfl
theorem foS_ok : ObjOk Tryz.prog 65 foS := foD1_ok.of_eval fun args h r hv => by
  unfold foS at hv
  split at hv
  · rename_i w g n nw ov l
    obtain ⟨hc, hv⟩ := ite_some hv
    obtain rfl := Option.some.inj hv
    obtain ⟨d, hn⟩ := pB_ok hc
    rw [← T.eval_anon (t := foD1 _ _)]
    have h0 : okFo ⟨w, g, n, nw, ov, l⟩ ⟨0, [], 0⟩ := ⟨d, hn, Int.le_refl _, by show (0 : Int) ≤ n; omega, rfl, rfl⟩
    obtain ⟨k1, k2⟩ := endC stepFo h0
    refine (T.path_eval (wayFS w g n nw ov l) ⟨invC_is h0, trivial⟩).trans ?_
    have hj : (endW (nxtC okFo goFo rdFo FFo muFo ⟨w, g, n, nw, ov, l⟩) ⟨0, [], 0⟩).j = n := by
      have q1 : (endW (nxtC okFo goFo rdFo FFo muFo ⟨w, g, n, nw, ov, l⟩) ⟨0, [], 0⟩).j ≤ (n : Int) := k1.j1
      have q2 : ¬ (endW (nxtC okFo goFo rdFo FFo muFo ⟨w, g, n, nw, ov, l⟩) ⟨0, [], 0⟩).j < (n : Int) := of_decide_eq_false k2
      omega
    have e2 : (endW (nxtC okFo goFo rdFo FFo muFo ⟨w, g, n, nw, ov, l⟩) ⟨0, [], 0⟩).k = (List.take (endW (nxtC okFo goFo rdFo FFo muFo ⟨w, g, n, nw, ov, l⟩) ⟨0, [], 0⟩).j.toNat (l : List TV)).filter (kpD w g nw) := k1.k
    have hk : (endW (nxtC okFo goFo rdFo FFo muFo ⟨w, g, n, nw, ov, l⟩) ⟨0, [], 0⟩).k = List.filter (kpD w g nw) (l : List TV) := by
      rw [e2, hj]; exact fin_take hn _
    rw [k1.m, hk]; rfl
  · cases hv
noncomputable def suS : Eng.Obj
  | [.ptr 0 0, .s (.int .i64 t)], [(0, .cells 82 [.s (.int .i64 w), .s (.int .i64 g), .sub 1 2 0 n, .s (.int .i64 nw), .s (.bool ov)]), (1, .lst true 105 [.int .i64, .int .i64] l)] =>
    .ite none (pB (OkD w g nw l ∧ n = l.length ∧ t ≤ 9223372036854775807)) (.ret (.tup [iv (Mil.cutV (sv (wD w g t l))), iv ((wD w g t l).length : Int)], dH w g n nw (ov || decide (tpI < sv (wD w g t l))) l)) .fail
  | _, _ => .fail
theorem waySU (w g : Int) (n : Nat) (nw : Int) (ov : Bool) (l : List TV) (t : Int) : T.path [true] (T.anon (suD0 [.ptr 0 0, iv t] (dH w g n nw ov l))) = some ([(invC okDs ⟨w, g, n, nw, l, t, ov⟩ ⟨ov, 0, 0, 0⟩, true)],
   (.tup [iv (endW (nxtC okDs goDs rdDs FDs muDs ⟨w, g, n, nw, l, t, ov⟩) ⟨ov, 0, 0, 0⟩).s, iv (endW (nxtC okDs goDs rdDs FDs muDs ⟨w, g, n, nw, l, t, ov⟩) ⟨ov, 0, 0, 0⟩).c], dH w g n nw (endW (nxtC okDs goDs rdDs FDs muDs ⟨w, g, n, nw, l, t, ov⟩) ⟨ov, 0, 0, 0⟩).ov l)) := by kernel_rfl
theorem suS_ok : ObjOk Tryz.prog 75 suS := suD0_ok.of_eval fun args h r hv => by
  unfold suS at hv
  split at hv
  · rename_i t w g n nw ov l
    obtain ⟨hc, hv⟩ := ite_some hv
    obtain rfl := Option.some.inj hv
    obtain ⟨d, hn, t1⟩ := pB_ok hc
    rw [← T.eval_anon (t := suD0 _ _)]
    have h0 : okDs ⟨w, g, n, nw, l, t, ov⟩ ⟨ov, 0, 0, 0⟩ := ⟨d, t1, hn, Int.le_refl _, by show (0 : Int) ≤ n; omega, rfl, rfl, by show ov = (ov || decide (tpI < 0)); rw [show decide (tpI < 0) = false from rfl, Bool.or_false], fun _ => rfl⟩
    obtain ⟨k1, k2⟩ := endC stepDs h0
    refine (T.path_eval (waySU w g n nw ov l t) ⟨invC_is h0, trivial⟩).trans ?_
    generalize endW (nxtC okDs goDs rdDs FDs muDs ⟨w, g, n, nw, l, t, ov⟩) ⟨ov, 0, 0, 0⟩ = e at *
    have hF : (l.take e.j.toNat).filter (inD w g t) = wD w g t l := by
      by_cases ht : 0 ≤ t
      · have q1 : e.j ≤ (n : Int) := k1.j1
        have q2 : ¬ e.j < (n : Int) := by
          have : (bif decide (e.j < (n : Int)) then decide (0 ≤ t) else false) = false := k2
          rw [decide_eq_true ht] at this
          intro h
          rw [decide_eq_true h] at this; cases this
        have hj : e.j = (n : Int) := by omega
        rw [hj]; exact fin_take hn _
      · have e0 : e.j = 0 := k1.tn (by show t < 0; omega)
        rw [e0]; exact (wD_neg ht).symm
    have s1 : e.s = Mil.cutV (sv ((l.take e.j.toNat).filter (inD w g t))) := k1.s
    have s2 : e.c = (((l.take e.j.toNat).filter (inD w g t)).length : Int) := k1.c
    have s3 : e.ov = (ov || decide (tpI < sv ((l.take e.j.toNat).filter (inD w g t)))) := k1.ov
    rw [s1, s2, s3, hF]
  · cases hv
noncomputable def D3 : Cfg := ⟨Tryz.prog, lookG [(64, .see nS), (63, .see bkS), (65, .obj foS), (75, .obj suS)], [], 0⟩
theorem D3_ok : D3.Ok := Cfg.ok ⟨nS_ok, bkS_ok, foS_ok, suS_ok, trivial⟩ trivial
noncomputable def puD0 : Eng.Obj := execO D3 noLoops 34
theorem puD0_ok : ObjOk Tryz.prog 34 puD0 := execO_plain D3_ok mixed Tryz.func34 (by kernel_rfl) (by kernel_rfl)
noncomputable def puD1 : Eng.Obj := fun args h0 => (puD0 args h0).bind (tidyO 1 h0)
theorem puD1_ok : ObjOk Tryz.prog 34 puD1 := puD0_ok.tidy 1
noncomputable def meD0 : Eng.Obj := execO D3 noLoops 42
theorem meD0_ok : ObjOk Tryz.prog 42 meD0 := execO_plain D3_ok mixed Tryz.func42 (by kernel_rfl) (by kernel_rfl)
noncomputable def reD0 : Eng.Obj := execO D3 noLoops 67
theorem reD0_ok : ObjOk Tryz.prog 67 reD0 := execO_plain D3_ok mixed Tryz.func67 (by kernel_rfl) (by kernel_rfl)
noncomputable def reD1 : Eng.Obj := fun args h0 => (reD0 args h0).bind (tidyO 1 h0)
theorem reD1_ok : ObjOk Tryz.prog 67 reD1 := reD0_ok.tidy 1
noncomputable def newD1 : Eng.Obj := fun args h0 => (((newD0 args h0).bind fun r => .ret (nrmV r.1, nrmH r.2))).bind (adoptH 56 2 105 KR h0)
theorem newD1_ok : ObjOk Tryz.prog 60 newD1 := newD0_ok.norm.adopt 56 2 105 KR
end Go.Proofs.YtebibmioiigplaaGreat.Rin

/- Layer 5: the document's ring: contracts. -/
namespace Go.Proofs.YtebibmioiigplaaGreat.Rin
open Go.Eng Go.RowKit Mil
set_option linter.unusedVariables false
set_option linter.unusedSimpArgs false
def keepD (w g : Int) (n : Nat) (nw : Int) (l : List TV) (x : TV) : List TV := List.filter (kpD w g nw) (List.take n l ++ [x])
def puN (k : Nat) (w g : Int) (nw : Int) (ov : Bool) (r : List TV) : Heap := [(0, dB w g (.sub k 2 0 r.length) nw ov), (k, .lst true 105 KR r)]
noncomputable def gdD (w g : Int) (n : Nat) (nw : Int) (l : List TV) (t v : Int) : Prop := OkD w g nw l ∧ n = l.length ∧ l.length < 100000 ∧ v ≤ 9223372036854775807
noncomputable def puS : Eng.Obj
  | [.ptr 0 0, .s (.int .i64 t), .s (.int .i64 v)], [(0, .cells 82 [.s (.int .i64 w), .s (.int .i64 g), .sub 1 2 0 n, .s (.int .i64 nw), .s (.bool ov)]), (1, .lst true 105 [.int .i64, .int .i64] l)] =>
    .ite none (badA t v) (.ret (iv 1, dH w g n nw ov l))
      (.ite none (pB (gdD w g n nw l t v)) (.ite none (decide ((nN w g : Nat) ≤ nw - Int.tdiv t g)) (.ret (iv 0, dH w g n nw ov l)) (.ret (iv 0, puN 250 w g (mxR nw (Int.tdiv t g)) ov (keepD w g n (mxR nw (Int.tdiv t g)) l (t, v))))) .fail)
  | _, _ => .fail
theorem wayDe (w g : Int) (n : Nat) (nw : Int) (ov : Bool) (l : List TV) (t v : Int) : T.path [true] (T.anon (puD1 [.ptr 0 0, iv t, iv v] (dH w g n nw ov l))) = some ([(badA t v, true)], (iv 1, dH w g n nw ov l)) := by kernel_rfl
theorem wayDl (w g : Int) (n : Nat) (nw : Int) (ov : Bool) (l : List TV) (t v i m : Int) (hi : IntKind.wrap .i64 (Int.tdiv t g) = i) : T.path [false, false, false, true] (T.anon (puD1 [.ptr 0 0, iv t, iv v] (dH w g n nw ov l))) =
    some ([(badA t v, false), (g == 0, false), (g == 0, false), (decide (nnI w g ≤ IntKind.wrap .i64 (nw - i)), true)], (iv 0, dH w g n nw ov l)) := by subst hi; kernel_rfl
theorem wayDn (w g : Int) (n : Nat) (nw : Int) (ov : Bool) (l : List TV) (t v i m : Int) (hi : IntKind.wrap .i64 (Int.tdiv t g) = i) (hm : (if i > nw then i else nw) = m) : T.path [false, false, false, false, false, true, true] (T.anon (puD1 [.ptr 0 0, iv t, iv v] (dH w g n nw ov l))) =
    some ([(badA t v, false), (g == 0, false), (g == 0, false), (decide (nnI w g ≤ IntKind.wrap .i64 (nw - i)), false), (g == 0, false), (apC n l (t, v), true), (pB (OkD w g m (List.take n l ++ [(t, v)]) ∧ n + [(t, v)].length = (List.take n l ++ [(t, v)]).length), true)],
      (iv 0, puN 250 w g m ov (keepD w g n m l (t, v)))) := by subst hi; subst hm; kernel_rfl
theorem okD_app {w g : Int} {n : Nat} {nw : Int} {l : List TV} {t v : Int} (d : OkD w g nw l) (hn : n = l.length) (hl : l.length < 100000) (t0 : 0 ≤ t) (t1 : t ≤ 1099511627776) (v0 : 0 ≤ v) (v1 : v ≤ 9223372036854775807) :
    OkD w g (mxR nw (Int.tdiv t g)) (List.take n l ++ [(t, v)]) ∧ n + [(t, v)].length = (List.take n l ++ [(t, v)]).length := by
  obtain ⟨q1, q2⟩ := tdiv_bd t0 d.g1
  have n0 := d.n0
  have n1 := d.n1
  rw [hn, List.take_length]
  refine ⟨⟨d.g1, d.g2, d.w1, by unfold mxR; split <;> omega, by unfold mxR; split <;> omega, by rw [List.length_append]; show l.length + 1 ≤ _; omega, ?_⟩, by rw [List.length_append]⟩
  intro x hx
  rcases List.mem_append.1 hx with hx | hx
  · exact d.el x hx
  · rw [List.mem_singleton] at hx; rw [hx]; exact ⟨t0, t1, v0, v1⟩
theorem puS_ok : ObjOk Tryz.prog 34 puS := puD1_ok.of_eval fun args h r hv => by
  unfold puS at hv
  split at hv
  · rename_i t v w g n nw ov l
    rw [← T.eval_anon (t := puD1 _ _)]
    cases hb : badA t v with
    | true =>
      rw [T.eval, hb] at hv
      obtain rfl := Option.some.inj hv
      exact T.path_eval (wayDe w g n nw ov l t v) ⟨hb, trivial⟩
    | false =>
      rw [T.eval, hb] at hv
      obtain ⟨t0, t1, v0⟩ := badA_false.1 hb
      obtain ⟨hc, hv⟩ := ite_some hv
      obtain ⟨d, hn, hl, v1⟩ := pB_ok hc
      obtain ⟨q1, q2⟩ := tdiv_bd t0 d.g1
      have hi : IntKind.wrap .i64 (Int.tdiv t g) = Int.tdiv t g := wrap64_in (by omega) (by omega)
      have g0 : (g == 0) = false := by rw [beq_eq_false_iff_ne]; have := d.g1; omega
      have n0 := d.n0
      have n1 := d.n1
      have hw : IntKind.wrap .i64 (nw - Int.tdiv t g) = nw - Int.tdiv t g := wrap64_in (by omega) (by omega)
      have hN := nnI_is d.g1 d.g2 d.w1
      cases hq : decide ((nN w g : Nat) ≤ nw - Int.tdiv t g) with
      | true =>
        rw [T.eval, hq] at hv
        obtain rfl := Option.some.inj hv
        exact T.path_eval (wayDl w g n nw ov l t v _ 0 hi) ⟨hb, g0, g0, by rw [hw, hN]; exact hq, trivial⟩
      | false =>
        rw [T.eval, hq] at hv
        obtain rfl := Option.some.inj hv
        have hm : (if Int.tdiv t g > nw then Int.tdiv t g else nw) = mxR nw (Int.tdiv t g) := rfl
        obtain ⟨z1, z2⟩ := okD_app d hn hl t0 t1 v0 v1
        exact T.path_eval (wayDn w g n nw ov l t v _ _ hi hm) ⟨hb, g0, g0, by rw [hw, hN]; exact hq, g0, apC_is _ hn (by omega), pB_is ⟨z1, z2⟩, trivial⟩
  · cases hv
noncomputable def meS : Eng.Obj
  | [.ptr 0 0, .s (.int .i64 t)], [(0, .cells 82 [.s (.int .i64 w), .s (.int .i64 g), .sub 1 2 0 n, .s (.int .i64 nw), .s (.bool ov)]), (1, .lst true 105 [.int .i64, .int .i64] l)] =>
    .ite none (pB (OkD w g nw l ∧ n = l.length ∧ t ≤ 9223372036854775807)) (.ret (iv (mnV (Mil.cutV (sv (wD w g t l))) ((wD w g t l).length : Int)), dH w g n nw (ov || decide (tpI < sv (wD w g t l))) l)) .fail
  | _, _ => .fail
theorem wayM0 (w g : Int) (n : Nat) (nw : Int) (ov : Bool) (l : List TV) (t : Int) : T.path [true, true] (T.anon (meD0 [.ptr 0 0, iv t] (dH w g n nw ov l))) =
    some ([(pB (OkD w g nw l ∧ n = l.length ∧ t ≤ 9223372036854775807), true), (((wD w g t l).length : Int) == 0, true)], (iv 0, dH w g n nw (ov || decide (tpI < sv (wD w g t l))) l)) := by kernel_rfl
theorem wayM1 (w g : Int) (n : Nat) (nw : Int) (ov : Bool) (l : List TV) (t : Int) : T.path [true, false, false] (T.anon (meD0 [.ptr 0 0, iv t] (dH w g n nw ov l))) =
    some ([(pB (OkD w g nw l ∧ n = l.length ∧ t ≤ 9223372036854775807), true), (((wD w g t l).length : Int) == 0, false), (((wD w g t l).length : Int) == 0, false)], (iv (IntKind.wrap .i64 (Int.tdiv (Mil.cutV (sv (wD w g t l))) ((wD w g t l).length : Int))), dH w g n nw (ov || decide (tpI < sv (wD w g t l))) l)) := by kernel_rfl
theorem meS_ok : ObjOk Tryz.prog 42 meS := meD0_ok.of_eval fun args h r hv => by
  unfold meS at hv
  split at hv
  · rename_i t w g n nw ov l
    obtain ⟨hc, hv⟩ := ite_some hv
    obtain rfl := Option.some.inj hv
    rw [← T.eval_anon (t := meD0 _ _)]
    unfold mnV
    cases hz : ((wD w g t l).length : Int) == 0 with
    | true => exact T.path_eval (wayM0 w g n nw ov l t) ⟨hc, hz, trivial⟩
    | false => exact T.path_eval (wayM1 w g n nw ov l t) ⟨hc, hz, hz, trivial⟩
  · cases hv
noncomputable def reS : Eng.Obj
  | [.ptr 0 0, .s (.int .i64 x)], [(0, .cells 82 [.s (.int .i64 w), .s (.int .i64 g), .sub 1 2 0 n, .s (.int .i64 nw), .s (.bool ov)]), (1, .lst true 105 [.int .i64, .int .i64] l)] =>
    .ite none (badX x g) (.ret (iv 1, dH w g n nw ov l)) (.ite none (pB (OkD x g nw l ∧ n = l.length)) (.ret (iv 0, puN 34 x g nw ov (l.filter (kpD x g nw)))) .fail)
  | _, _ => .fail
theorem wayX0 (w g : Int) (n : Nat) (nw : Int) (ov : Bool) (l : List TV) (x : Int) : T.path [true] (T.anon (reD1 [.ptr 0 0, iv x] (dH w g n nw ov l))) = some ([(badX x g, true)], (iv 1, dH w g n nw ov l)) := by kernel_rfl
theorem wayX1 (w g : Int) (n : Nat) (nw : Int) (ov : Bool) (l : List TV) (x : Int) : T.path [false, true] (T.anon (reD1 [.ptr 0 0, iv x] (dH w g n nw ov l))) = some ([(badX x g, false), (pB (OkD x g nw l ∧ n = l.length), true)], (iv 0, puN 34 x g nw ov (l.filter (kpD x g nw)))) := by kernel_rfl
theorem reS_ok : ObjOk Tryz.prog 67 reS := reD1_ok.of_eval fun args h r hv => by
  unfold reS at hv
  split at hv
  · rename_i x w g n nw ov l
    rw [← T.eval_anon (t := reD1 _ _)]
    cases hb : badX x g with
    | true =>
      rw [T.eval, hb] at hv
      obtain rfl := Option.some.inj hv
      exact T.path_eval (wayX0 w g n nw ov l x) ⟨hb, trivial⟩
    | false =>
      rw [T.eval, hb] at hv
      obtain ⟨hc, hv⟩ := ite_some hv
      obtain rfl := Option.some.inj hv
      exact T.path_eval (wayX1 w g n nw ov l x) ⟨hb, hc, trivial⟩
  · cases hv
def newDS : Eng.Obj
  | [.s (.int .i64 w), .s (.int .i64 g)], [] => .ite none (badN w g) (.ret (.nilPtr, [])) (.ret (.ptr 56 0, [(56, dB w g (.sub 57 2 0 0) (-1) false), (57, .lst true 105 KR [])]))
  | _, _ => .fail
theorem wayW0 (w g : Int) : T.path [true] (T.anon (newD1 [iv w, iv g] [])) = some ([(badN w g, true)], (.nilPtr, [])) := by kernel_rfl
theorem wayW1 (w g : Int) : T.path [false] (T.anon (newD1 [iv w, iv g] [])) = some ([(badN w g, false)], (.ptr 56 0, [(56, dB w g (.sub 57 2 0 0) (-1) false), (57, .lst true 105 KR [])])) := by kernel_rfl
theorem newDS_ok : ObjOk Tryz.prog 60 newDS := newD1_ok.of_eval fun args h r hv => by
  unfold newDS at hv
  split at hv
  · rename_i w g
    rw [← T.eval_anon (t := newD1 _ _)]
    cases hb : badN w g with
    | true =>
      rw [T.eval, hb] at hv
      obtain rfl := Option.some.inj hv
      exact T.path_eval (wayW0 w g) ⟨hb, trivial⟩
    | false =>
      rw [T.eval, hb] at hv
      obtain rfl := Option.some.inj hv
      exact T.path_eval (wayW1 w g) ⟨hb, trivial⟩
  · cases hv
end Go.Proofs.YtebibmioiigplaaGreat.Rin

/- Layer 5: RingPlays: its loop. -/
namespace Go.Proofs.YtebibmioiigplaaGreat.Rin
open Go.Eng Go.RowKit Mil
set_option linter.unusedVariables false
set_option linter.unusedSimpArgs false
end Go.Proofs.YtebibmioiigplaaGreat.Rin

/- Layer 5: RingPlays: its rounds' ways. -/
namespace Go.Proofs.YtebibmioiigplaaGreat.Rin
open Go.Eng Go.RowKit Mil
set_option linter.unusedVariables false
set_option linter.unusedSimpArgs false
structure DS where
  w : Int
  g : Int
  n : Nat
  nw : Int
  ov : Bool
  l : List TV
def xO (o : List (Int × Int × Int × Int)) (i : Int) : Int × Int × Int × Int := o.getD (0 + i.toNat) (0, 0, 0, 0)
def kO (x : Int × Int × Int × Int) : Int := bits .and .i64 x.1 7
noncomputable def DS.put (d : DS) (t v : Int) : DS := ⟨d.w, d.g, (keepD d.w d.g d.n (mxR d.nw (Int.tdiv t d.g)) d.l (t, v)).length, mxR d.nw (Int.tdiv t d.g), d.ov, keepD d.w d.g d.n (mxR d.nw (Int.tdiv t d.g)) d.l (t, v)⟩
noncomputable def DS.sum (d : DS) (t : Int) : DS := ⟨d.w, d.g, d.n, d.nw, d.ov || decide (tpI < sv (wD d.w d.g t d.l)), d.l⟩
noncomputable def DS.res (d : DS) (x : Int) : DS := ⟨x, d.g, (d.l.filter (kpD x d.g d.nw)).length, d.nw, d.ov, d.l.filter (kpD x d.g d.nw)⟩
noncomputable def putDC (d : DS) (t v : Int) (b : Bool) : List (Bool × Bool) := [(badA t v, false), (pB (gdD d.w d.g d.n d.nw d.l t v), true), (decide ((nN d.w d.g : Nat) ≤ d.nw - Int.tdiv t d.g), b)]
noncomputable def okDC (d : DS) (t : Int) : List (Bool × Bool) := [(pB (OkD d.w d.g d.nw d.l ∧ d.n = d.l.length ∧ t ≤ 9223372036854775807), true)]
def difB (s : RS) (d : DS) : Bool := bif bif s.w != d.w then true else (s.n : Int) != nnI d.w d.g then true else !(bif decide (0 < (s.n : Int)) then s.ov else false) == d.ov
def tlP (s : RS) (d : DS) : List (Bool × Bool) := [(decide (0 < (s.n : Int)), true), (s.w != d.w, false), (d.g == 0, false), (difB s d, false)]
noncomputable def smN (d : DS) (t : Int) : Int := ((wD d.w d.g t d.l).length : Int)
noncomputable def smS (d : DS) (t : Int) : Int := Mil.cutV (sv (wD d.w d.g t d.l))
noncomputable def cmS (a b : Int) (d : DS) (t : Int) : Bool := bif a != smS d t then true else b != smN d t
end Go.Proofs.YtebibmioiigplaaGreat.Rin

/- Layer 5: the ring beside the document's: what both hold. -/
namespace Go.Proofs.YtebibmioiigplaaGreat.Rin
open Go.Eng Go.RowKit Mil
set_option linter.unusedVariables false
set_option linter.unusedSimpArgs false
/-- a record's bucket -/
def recB (g : Int) (l : List TV) : List Rec := l.map fun x => (Int.tdiv x.1 g, x.2)
theorem recB_app {g : Int} {l : List TV} {x : TV} : recB g (l ++ [x]) = recB g l ++ [(Int.tdiv x.1 g, x.2)] := by unfold recB; rw [List.map_append]; rfl
theorem recB_filter (g : Int) (f : Int → Bool) : ∀ l : List TV, (recB g l).filter (fun p => f p.1) = recB g (l.filter fun x => f (Int.tdiv x.1 g))
  | [] => rfl
  | x :: r => by
    have ih := recB_filter g f r
    unfold recB at ih ⊢
    simp only [List.map_cons, List.filter_cons]
    cases h : f (Int.tdiv x.1 g) with
    | true => simp only [ite_true, List.map_cons]; rw [ih]
    | false => simp only [Bool.false_eq_true, ite_false]; exact ih
theorem recB_sv (g : Int) : ∀ l : List TV, sv (recB g l) = sv l
  | [] => rfl
  | x :: r => by
    have ih := recB_sv g r
    unfold recB at ih ⊢
    rw [List.map_cons, sv_cons, sv_cons, ih]
theorem recB_len (g : Int) (l : List TV) : (recB g l).length = l.length := List.length_map _
/-- what lies behind the window may be left out -/
theorem RepR.drop {n : Nat} {nw : Int} {l : List OB} {rs : List Rec} (h : RepR n nw l rs) : RepR n nw l (rs.filter fun p => decide (nw - p.1 < n)) where
  n0 := h.n0
  n1 := h.n1
  w0 := h.w0
  w1 := h.w1
  ln := h.ln
  recs := fun p hp => h.recs p (List.mem_filter.1 hp).1
  len := Nat.le_trans (List.length_filter_le _ _) h.len
  cells := fun b b0 b1 b2 => by
    rw [h.cells b b0 b1 b2]
    congr 1
    unfold bk
    rw [List.filter_filter]
    apply List.filter_congr
    intro x hx
    by_cases hxb : x.1 = b
    · rw [show decide (nw - x.1 < (n : Int)) = true from decide_eq_true (by omega), Bool.and_true]
    · simp [hxb]
structure BothR (s : RS) (d : DS) (m : Nat) : Prop where
  h : HoldsR s (recB d.g d.l)
  w : s.w = d.w
  g : s.g = d.g
  nw : s.nw = d.nw
  ov : s.ov = d.ov
  n : d.n = d.l.length
  ok : OkD d.w d.g d.nw d.l
  inw : ∀ x ∈ d.l, kpD d.w d.g d.nw x = true
  len : d.l.length ≤ m
theorem BothR.new {w g : Int} (h1 : 1 ≤ g) (h2 : g ≤ w) (h3 : w ≤ 600) : BothR (RS.new w g) ⟨w, g, 0, -1, false, []⟩ 0 :=
  ⟨HoldsR.new h1 h2 h3, rfl, rfl, rfl, rfl, rfl, ⟨h1, h2, h3, Int.le_refl _, by show (-1 : Int) ≤ _; omega, Nat.zero_le _, fun x hx => (by cases hx)⟩, fun x hx => (by cases hx), Nat.le_refl _⟩
theorem BothR.gs {s : RS} {d : DS} {m : Nat} (b : BothR s d m) : s.n = nN d.w d.g := by rw [b.h.sn, b.w, b.g]
theorem BothR.tl {s : RS} {d : DS} {m : Nat} (b : BothR s d m) : allSay (tlP s d) := by
  have n0 := b.h.rep.n0
  have g1 := b.ok.g1
  have e1 : (s.w != d.w) = false := by rw [b.w]; simp
  have e2 : decide (0 < (s.n : Int)) = true := decide_eq_true (by omega)
  refine ⟨e2, e1, by rw [beq_eq_false_iff_ne]; omega, ?_, trivial⟩
  unfold difB
  rw [e1, e2, nnI_is b.ok.g1 b.ok.g2 b.ok.w1, b.gs, b.ov]
  simp
theorem BothR.mono {s : RS} {d : DS} {m : Nat} (b : BothR s d m) : BothR s d (m + 1) := ⟨b.h, b.w, b.g, b.nw, b.ov, b.n, b.ok, b.inw, by have := b.len; omega⟩
/-- 5.1: what is put -/
theorem BothR.put {s : RS} {d : DS} {m : Nat} (b : BothR s d m) (hm : m < 10000) {t v : Int} (t0 : 0 ≤ t) (t1 : t ≤ 1099511627776) (v0 : 0 ≤ v) (v1 : v ≤ 9223372036854775807) :
    allSay (putC s t v) ∧ ((decide ((nN d.w d.g : Nat) ≤ d.nw - Int.tdiv t d.g) = true ∧ allSay (putDC d t v true) ∧ BothR (s.put t v) d m) ∨ (decide ((nN d.w d.g : Nat) ≤ d.nw - Int.tdiv t d.g) = false ∧ allSay (putDC d t v false) ∧ BothR (s.put t v) (d.put t v) (m + 1))) := by
  have hl := b.len
  obtain ⟨c1, hp⟩ := b.h.put t0 t1 v0 v1 (by rw [recB_len]; omega)
  have ba : badA t v = false := badA_false.2 ⟨t0, t1, v0⟩
  have gd : pB (gdD d.w d.g d.n d.nw d.l t v) = true := pB_is ⟨b.ok, b.n, by omega, v1⟩
  have hn := b.gs
  have eg : Int.tdiv t s.g = Int.tdiv t d.g := by rw [b.g]
  have n0 := b.h.rep.n0
  refine ⟨c1, ?_⟩
  rw [eg, b.nw, hn] at hp
  rw [hn] at n0
  have ew : (s.put t v).nw = mxR d.nw (Int.tdiv t d.g) := by show mxR s.nw (Int.tdiv t s.g) = _; rw [eg, b.nw]
  cases hq : decide ((nN d.w d.g : Nat) ≤ d.nw - Int.tdiv t d.g) with
  | true =>
    refine .inl ⟨rfl, ⟨ba, gd, hq, trivial⟩, ?_⟩
    have hq := of_decide_eq_true hq
    have em : mxR d.nw (Int.tdiv t d.g) = d.nw := mxR_l (by omega)
    rw [putRs_out (by rw [em]; omega)] at hp
    exact ⟨hp, b.w, b.g, by rw [ew, em], b.ov, b.n, b.ok, b.inw, hl⟩
  | false =>
    refine .inr ⟨rfl, ⟨ba, gd, hq, trivial⟩, ?_⟩
    have hq := of_decide_eq_false hq
    have em : mxR d.nw (Int.tdiv t d.g) - (nN d.w d.g : Nat) < Int.tdiv t d.g := by unfold mxR; split <;> omega
    rw [putRs_in em] at hp
    have ek : keepD d.w d.g d.n (mxR d.nw (Int.tdiv t d.g)) d.l (t, v) = (d.l ++ [(t, v)]).filter (kpD d.w d.g (mxR d.nw (Int.tdiv t d.g))) := by unfold keepD; rw [b.n, List.take_length]
    obtain ⟨z1, z2⟩ := okD_app b.ok b.n (by omega) t0 t1 v0 v1
    rw [b.n, List.take_length] at z1
    have dr := hp.rep.drop
    rw [ew] at dr
    have e3 : (s.put t v).n = nN d.w d.g := hn
    rw [e3, show recB d.g d.l ++ [(Int.tdiv t d.g, v)] = recB d.g (d.l ++ [(t, v)]) from (recB_app (g := d.g) (l := d.l) (x := (t, v))).symm, recB_filter d.g (fun z => decide (mxR d.nw (Int.tdiv t d.g) - z < (nN d.w d.g : Nat)))] at dr
    have lf : ((d.l ++ [(t, v)]).filter (kpD d.w d.g (mxR d.nw (Int.tdiv t d.g)))).length ≤ d.l.length + 1 := by
      have := List.length_filter_le (kpD d.w d.g (mxR d.nw (Int.tdiv t d.g))) (d.l ++ [(t, v)])
      rw [List.length_append] at this; exact this
    refine ⟨⟨?_, hp.g1, hp.g2, hp.w1, hp.sn⟩, b.w, b.g, ew, b.ov, rfl, ?_, ?_, ?_⟩
    · show RepR (s.put t v).n (s.put t v).nw (s.put t v).l (recB d.g (keepD d.w d.g d.n (mxR d.nw (Int.tdiv t d.g)) d.l (t, v)))
      rw [ek, ew, e3]; exact dr
    · show OkD d.w d.g (mxR d.nw (Int.tdiv t d.g)) (keepD d.w d.g d.n (mxR d.nw (Int.tdiv t d.g)) d.l (t, v))
      rw [ek]
      exact ⟨z1.g1, z1.g2, z1.w1, z1.n0, z1.n1, Nat.le_trans (List.length_filter_le _ _) z1.ln, fun x hx => z1.el x (List.mem_filter.1 hx).1⟩
    · intro x hx
      have hx : x ∈ keepD d.w d.g d.n (mxR d.nw (Int.tdiv t d.g)) d.l (t, v) := hx
      rw [ek] at hx
      exact (List.mem_filter.1 hx).2
    · show (keepD d.w d.g d.n (mxR d.nw (Int.tdiv t d.g)) d.l (t, v)).length ≤ m + 1
      rw [ek]; omega
/-- 5.3: another window -/
theorem BothR.res {s : RS} {d : DS} {m : Nat} (b : BothR s d m) (hm : m < 10000) {x : Int} (x0 : d.g ≤ x) (x1 : x ≤ 600) :
    allSay (resC s x) ∧ (OkD x d.g d.nw d.l ∧ d.n = d.l.length) ∧ BothR (s.res x) (d.res x) m := by
  obtain ⟨c1, hp⟩ := b.h.res (x := x) (by rw [b.g]; exact x0) x1
  have k := b.ok
  have okx : OkD x d.g d.nw d.l := ⟨k.g1, x0, x1, k.n0, k.n1, k.ln, k.el⟩
  refine ⟨c1, ⟨okx, b.n⟩, ?_⟩
  have e0 : (recB d.g d.l).filter (fun p => decide (s.nw - s.n < p.1)) = recB d.g d.l := by
    rw [List.filter_eq_self]
    intro p hp
    obtain ⟨y, hy, rfl⟩ := List.mem_map.1 hp
    have := of_decide_eq_true (b.inw y hy)
    rw [b.nw, b.gs]
    exact decide_eq_true (by show _ < Int.tdiv y.1 d.g; omega)
  rw [e0] at hp
  have dr := hp.rep.drop
  have e3 : (s.res x).n = nN x d.g := by show nN x s.g = _; rw [b.g]
  have ew : (s.res x).nw = d.nw := b.nw
  rw [e3, ew, recB_filter d.g (fun z => decide (d.nw - z < (nN x d.g : Nat)))] at dr
  refine ⟨⟨?_, hp.g1, hp.g2, hp.w1, hp.sn⟩, rfl, b.g, b.nw, b.ov, rfl, ?_, ?_, ?_⟩
  · rw [e3, ew]; exact dr
  · exact ⟨k.g1, x0, x1, k.n0, k.n1, Nat.le_trans (List.length_filter_le _ _) k.ln, fun y hy => k.el y (List.mem_filter.1 hy).1⟩
  · intro y hy; exact (List.mem_filter.1 hy).2
  · exact Nat.le_trans (List.length_filter_le _ _) b.len
/-- 5.2: what is summed -/
theorem BothR.sum {s : RS} {d : DS} {m : Nat} (b : BothR s d m) {t : Int} (t0 : 0 ≤ t) (t1 : t ≤ 9223372036854775807) :
    allSay (sumC s t) ∧ allSay (okDC d t) ∧ (s.sumA t).s = smS d t ∧ (s.sumA t).c = smN d t ∧ BothR (s.sum t) (d.sum t) m := by
  obtain ⟨c1, hp, hs⟩ := b.h.sum t0 t1
  obtain ⟨s1, s2, s3⟩ := smV_s hs
  have eg : Int.tdiv t s.g = Int.tdiv t d.g := by rw [b.g]
  have ew : wn (frR s.n s.nw (Int.tdiv t s.g)) (Int.tdiv t s.g + 1) (recB d.g d.l) = recB d.g (wD d.w d.g t d.l) := by
    rw [eg, b.nw, b.gs]
    unfold wn
    rw [recB_filter d.g (fun z => decide (frR (nN d.w d.g) d.nw (Int.tdiv t d.g) ≤ z) && decide (z < Int.tdiv t d.g + 1))]
    congr 1
    unfold wD
    apply List.filter_congr
    intro x hx
    have k := of_decide_eq_true (b.inw x hx)
    obtain ⟨y1, y2, _⟩ := b.ok.el x hx
    obtain ⟨q1, q2⟩ := tdiv_bd y1 b.ok.g1
    unfold inD
    rw [Bool.eq_iff_iff]
    simp only [Bool.and_eq_true, decide_eq_true_eq]
    unfold frR mxR
    constructor
    · intro h
      refine ⟨t0, ?_, ?_⟩
      · omega
      · have := h.1
        split at this <;> split at this <;> omega
    · intro h
      refine ⟨?_, by omega⟩
      split <;> split <;> omega
  rw [ew, recB_sv] at s1 s3
  rw [ew, recB_len] at s2
  refine ⟨c1, ⟨pB_is ⟨b.ok, b.n, t1⟩, trivial⟩, s1, s2, ⟨hp, b.w, b.g, b.nw, ?_, b.n, b.ok, b.inw, b.len⟩⟩
  show (bif s.ov then true else (s.sumA t).k) = (d.ov || decide (tpI < sv (wD d.w d.g t d.l)))
  rw [b.ov, s3]; cases d.ov <;> rfl
theorem BothR.neg {s : RS} {d : DS} {m : Nat} (b : BothR s d m) {t : Int} (t0 : t < 0) :
    allSay (okDC d t) ∧ smS d t = 0 ∧ smN d t = 0 ∧ BothR s (d.sum t) m := by
  have e : wD d.w d.g t d.l = [] := wD_neg (by omega)
  refine ⟨⟨pB_is ⟨b.ok, b.n, by omega⟩, trivial⟩, ?_, ?_, ⟨b.h, b.w, b.g, b.nw, ?_, b.n, b.ok, b.inw, b.len⟩⟩
  · unfold smS; rw [e]; rfl
  · unfold smN; rw [e]; rfl
  · show s.ov = (d.ov || decide (tpI < sv (wD d.w d.g t d.l)))
    rw [e, b.ov, show decide (tpI < sv []) = false from rfl, Bool.or_false]
end Go.Proofs.YtebibmioiigplaaGreat.Rin

