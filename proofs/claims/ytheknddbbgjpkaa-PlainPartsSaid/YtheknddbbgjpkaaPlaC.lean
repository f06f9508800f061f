/- Layer 6: plain.Sum: its loop. -/
import Derived.Test.YtheknddbbgjpkaaPlaS
namespace Go.Proofs.Ytheknddbbgjpkaa.Pla
open Go.Eng Go.RowKit Mil Rin
set_option linter.unusedVariables false
set_option linter.unusedSimpArgs false
noncomputable def P3 : Cfg := ⟨Try.prog, lookG [(98, .val putP0), (61, .val newC), (99, .val Sta.addS)], [], 0⟩
theorem P3_ok : P3.Ok := Cfg.ok ⟨putP0_ok, newC_ok, Sta.add_ok, trivial⟩ trivial
noncomputable def lpSu : Code := loopAt Try.prog 57 0
structure PSu where (k : Nat) (c : Int) (l : List (Int × Int)) (g : Int) (r : Int) (ak : Int) (la : Int)
structure ASu where (s : Int) (n : Int) (i : Int)
abbrev SSu : List (Nat × Src) := [(0, .same)]
def vsSu (p : PSu) (a : ASu) : List V := [iv p.g, iv p.r, iv p.ak, iv p.la, iv a.s, iv a.n, .sub 0 2 0 p.k, iv p.c, iv a.i]
def bsSu (p : PSu) (a : ASu) : List Blk := [.lst false 86 [.int .i64, .int .i64] p.l]
noncomputable def FSu (p : PSu) (a : ASu) : St := mkSt [10,11,12,13,14,15,54,55,56] (keysR SSu) 1000 101 (vsSu p a) (bsSu p a)
noncomputable def rdSu (p : PSu) (a : ASu) : T (Ex × St) := T.anon (roundN P3 noLoops lpSu [10,11,12,13,14,15,54,55,56] SSu 1000 1000 (mkSt [10,11,12,13,14,15,54,55,56] (keysR SSu) 1000 101 (vsSu p a) (bsSu p a)))
def decSu : List V → List Blk → Option (PSu × ASu)
  | [.s (.int .i64 g), .s (.int .i64 r), .s (.int .i64 ak), .s (.int .i64 la), .s (.int .i64 s), .s (.int .i64 n), .sub 0 2 0 k, .s (.int .i64 c), .s (.int .i64 i)], [.lst false tt0 [.int .i64, .int .i64] l] =>
    if tt0 = 86 then some (⟨k, c, l, g, r, ak, la⟩, ⟨s, n, i⟩) else none
  | _, _ => none
theorem decSu_ok (l : List V) (b : List Blk) (d : PSu × ASu) (h : decSu l b = some d) : l = vsSu d.1 d.2 ∧ b = bsSu d.1 d.2 := by
  unfold decSu at h
  split at h
  · obtain ⟨e0, h⟩ := ite_some0 h
    subst e0
    cases h
    exact ⟨rfl, rfl⟩
  · cases h
noncomputable def rgSu : Nat := (firstReg lpSu).getD 0
theorem rgSu_is : firstReg lpSu = some rgSu := by kernel_rfl
def wD1 (p : PSu) (a : ASu) : Int := IntKind.wrap .i64 (Int.tdiv (xF p.l a.i).1 p.g)
def inP (p : PSu) (a : ASu) : Bool := bif bif decide (wD1 p a ≤ p.ak) then decide (IntKind.wrap .i64 (p.ak - wD1 p a) < p.r) else false then decide (IntKind.wrap .i64 (p.la - wD1 p a) < p.r) else false
def hdS (p : PSu) (a : ASu) : List (Bool × Bool) := [(decide (a.i < p.c), true), (idR p.l p.k a.i, true), (ldR p.l a.i, true)]
theorem waySu0 (p : PSu) (a : ASu) : T.path [true, true, true, true] (rdSu p a) = some (hdS p a ++ [(badA (xF p.l a.i).1 (xF p.l a.i).2, true)], (.normal, FSu p ⟨a.s, a.n, IntKind.wrap .i64 (a.i + 1)⟩)) := by kernel_rfl
theorem waySu1 (p : PSu) (a : ASu) : T.path [true, true, true, false, false, false] (rdSu p a) = some (hdS p a ++ [(badA (xF p.l a.i).1 (xF p.l a.i).2, false), (p.g == 0, false), (inP p a, false)], (.normal, FSu p ⟨a.s, a.n, IntKind.wrap .i64 (a.i + 1)⟩)) := by kernel_rfl
theorem waySu2 (p : PSu) (a : ASu) : T.path [true, true, true, false, false, true, true] (rdSu p a) = some (hdS p a ++ [(badA (xF p.l a.i).1 (xF p.l a.i).2, false), (p.g == 0, false), (inP p a, true), (Sta.inR a.s && Sta.inR (xF p.l a.i).2, true)], (.normal, FSu p ⟨Mil.cutV (a.s + (xF p.l a.i).2), IntKind.wrap .i64 (a.n + 1), IntKind.wrap .i64 (a.i + 1)⟩)) := by kernel_rfl
theorem waySux (p : PSu) (a : ASu) : T.path [false] (rdSu p a) = some ([(decide (a.i < p.c), false)], (.exit 0, FSu p a)) := by kernel_rfl
/-- is it summed? -/
def pw (g r ak la : Int) (x : TV) : Bool := !badA x.1 x.2 && (decide (Int.tdiv x.1 g ≤ ak) && (decide (ak - Int.tdiv x.1 g < r) && decide (la - Int.tdiv x.1 g < r)))
structure okSu (p : PSu) (a : ASu) : Prop where
  k : p.k = p.l.length
  c : p.c = p.k
  ln : p.k ≤ 100000
  g1 : 1 ≤ p.g
  a0 : 0 ≤ p.ak
  a1 : p.ak ≤ 9223372036854775807
  l0 : -1 ≤ p.la
  l1 : p.la ≤ 1099511627776
  vs : ∀ x ∈ p.l, x.2 ≤ 9223372036854775807
  i0 : 0 ≤ a.i
  i1 : a.i ≤ p.k
  s : a.s = Mil.cutV (sv ((p.l.take a.i.toNat).filter (pw p.g p.r p.ak p.la)))
  n : a.n = (((p.l.take a.i.toNat).filter (pw p.g p.r p.ak p.la)).length : Int)
def goSu (p : PSu) (a : ASu) : Bool := decide (a.i < p.c)
def muSu (p : PSu) (a : ASu) : Nat := (p.k - a.i).toNat
theorem stepSu (p : PSu) (a : ASu) (h : okSu p a) (hg : goSu p a = true) : ∃ b, stepC okSu rdSu FSu muSu p a b := by
  obtain ⟨hk, hc, hl, g1, a0, a1, l0, l1, vs, i0, i1, hs, hn⟩ := h
  have hi : a.i < p.c := of_decide_eq_true hg
  have hw : IntKind.wrap .i64 (a.i + 1) = a.i + 1 := wrap64_in (by omega) (by omega)
  obtain ⟨x1, x2⟩ := idR_is (g := p.l) (k := p.k) (i := a.i) hk i0 (by omega)
  have hlt : a.i.toNat < p.l.length := by omega
  have hx := xF_at i0 hlt
  have tk := take_next i0 hlt
  have v1 := vs _ (List.getElem_mem hlt)
  have hH : allSay (hdS p a) := ⟨hg, x1, x2, trivial⟩
  have g0 : (p.g == 0) = false := by rw [beq_eq_false_iff_ne]; omega
  have mu : (p.k - IntKind.wrap .i64 (a.i + 1)).toNat < (p.k - a.i).toNat := by rw [hw]; omega
  have f3 : 0 ≤ IntKind.wrap .i64 (a.i + 1) := by rw [hw]; omega
  have f4 : IntKind.wrap .i64 (a.i + 1) ≤ p.k := by rw [hw]; omega
  have skip : pw p.g p.r p.ak p.la p.l[a.i.toNat] = false → okSu p ⟨a.s, a.n, IntKind.wrap .i64 (a.i + 1)⟩ := by
    intro hp
    have e : (p.l.take (a.i + 1).toNat).filter (pw p.g p.r p.ak p.la) = (p.l.take a.i.toNat).filter (pw p.g p.r p.ak p.la) := by rw [tk, List.filter_append, List.filter_cons, hp]; simp
    refine ⟨hk, hc, hl, g1, a0, a1, l0, l1, vs, f3, f4, ?_, ?_⟩
    · show a.s = Mil.cutV (sv ((p.l.take (IntKind.wrap .i64 (a.i + 1)).toNat).filter _)); rw [hw, e]; exact hs
    · show a.n = (((p.l.take (IntKind.wrap .i64 (a.i + 1)).toNat).filter _).length : Int); rw [hw, e]; exact hn
  cases hb : badA p.l[a.i.toNat].1 p.l[a.i.toNat].2 with
  | true => exact ⟨_, T.path_eval (waySu0 p a) (allSay_append hH ⟨by rw [hx]; exact hb, trivial⟩), skip (by unfold pw; rw [hb]; rfl), mu⟩
  | false =>
    obtain ⟨t0, t1, v0⟩ := badA_false.1 hb
    obtain ⟨q1, q2⟩ := tdiv_bd t0 g1
    have hd : wD1 p a = Int.tdiv p.l[a.i.toNat].1 p.g := by unfold wD1; rw [hx]; exact wrap64_in (by omega) (by omega)
    have hin : inP p a = pw p.g p.r p.ak p.la p.l[a.i.toNat] := by
      unfold inP pw
      rw [hd, hb, wrap64_in (n := p.ak - _) (by omega) (by omega), wrap64_in (n := p.la - _) (by omega) (by omega)]
      cases decide (Int.tdiv p.l[a.i.toNat].1 p.g ≤ p.ak) <;> cases decide (p.ak - Int.tdiv p.l[a.i.toNat].1 p.g < p.r) <;> rfl
    cases hp : pw p.g p.r p.ak p.la p.l[a.i.toNat] with
    | false => exact ⟨_, T.path_eval (waySu1 p a) (allSay_append hH ⟨by rw [hx]; exact hb, g0, by rw [hin]; exact hp, trivial⟩), skip hp, mu⟩
    | true =>
      have e : (p.l.take (a.i + 1).toNat).filter (pw p.g p.r p.ak p.la) = (p.l.take a.i.toNat).filter (pw p.g p.r p.ak p.la) ++ [p.l[a.i.toNat]] := by rw [tk, List.filter_append, List.filter_cons, hp]; simp
      generalize hF : (p.l.take a.i.toNat).filter (pw p.g p.r p.ak p.la) = F at *
      have fn : 0 ≤ sv F := sv_nonneg fun z hz => by
        rw [← hF] at hz
        have hz := (List.mem_filter.1 hz).2
        unfold pw at hz
        cases hzb : badA z.1 z.2 with
        | true => rw [hzb] at hz; cases hz
        | false => exact (badA_false.1 hzb).2.2
      have fl : F.length ≤ 100000 := by
        rw [← hF]
        have := List.length_filter_le (pw p.g p.r p.ak p.la) (p.l.take a.i.toNat)
        rw [List.length_take] at this; omega
      have se : sv (F ++ [p.l[a.i.toNat]]) = sv F + p.l[a.i.toNat].2 := by rw [sv_append, sv_cons, sv_nil, Int.add_zero]
      have cs := cutV_in fn
      have hR : (Sta.inR a.s && Sta.inR (xF p.l a.i).2) = true := by rw [hs, hx, Sta.inR_iff.2 ⟨by omega, cs.2⟩, Sta.inR_iff.2 ⟨by omega, v1⟩]; rfl
      refine ⟨_, T.path_eval (waySu2 p a) (allSay_append hH ⟨by rw [hx]; exact hb, g0, by rw [hin]; exact hp, hR, trivial⟩), ⟨hk, hc, hl, g1, a0, a1, l0, l1, vs, f3, f4, ?_, ?_⟩, mu⟩
      · show Mil.cutV (a.s + (xF p.l a.i).2) = Mil.cutV (sv ((p.l.take (IntKind.wrap .i64 (a.i + 1)).toNat).filter _))
        rw [hw, e, se, hs, hx, cutV_add fn v0]
      · show IntKind.wrap .i64 (a.n + 1) = (((p.l.take (IntKind.wrap .i64 (a.i + 1)).toNat).filter _).length : Int)
        rw [hw, e, hn, wrap64_in (by omega) (by omega)]; simp
theorem exSu (p : PSu) (a : ASu) (h : okSu p a) (hg : goSu p a = false) : (rdSu p a).eval = some (.exit 0, FSu p a) := T.path_eval (waySux p a) ⟨hg, trivial⟩
noncomputable def famSu : LSpec := famC [10,11,12,13,14,15,54,55,56] SSu 1000 1000 101 decSu okSu goSu rdSu FSu muSu (.exit 0)
theorem lpSu_ok : LoopOk P3 lpSu famSu := famC_ok (vs := vsSu) (bs := bsSu) P3_ok mixed (noLoops_ok _) decSu_ok (by simp) (fun _ _ => rfl) (fun _ _ => rfl) stepSu exSu
noncomputable def sumE6 : Eng.Spec := execS P3 (byReg [(rgSu, famSu)]) 57
theorem sumE6_ok : SpecOk Try.prog 57 sumE6 := execS_loops P3_ok mixed Try.func57 (by kernel_rfl) (by kernel_rfl) (one_lp (by kernel_rfl) rgSu_is lpSu_ok)
def badS (w g t : Int) : Bool := bif badN w g then true else decide (t < 0)
def pSu (l : List TV) (w g t : Int) : PSu := ⟨l.length, (l.length : Int), l, g, nnI w g, IntKind.wrap .i64 (Int.tdiv t g), IntKind.wrap .i64 (Int.tdiv (newV (List.take l.length (List.drop 0 l))) g)⟩
noncomputable def eSu (l : List TV) (w g t : Int) : ASu := endW (nxtC okSu goSu rdSu FSu muSu (pSu l w g t)) ⟨0, 0, 0⟩
theorem sum_way0 (l : List TV) (w g t : Int) : T.path [true] (T.anon (sumE6 [.orow 86 KR2 l, Eng.iv w, Eng.iv g, Eng.iv t])) = some ([(badS w g t, true)], .tup [Eng.iv 0, Eng.iv 0]) := by kernel_rfl
theorem sum_way1 (l : List TV) (w g t : Int) : T.path [false, false, false, true, true, false, true] (T.anon (sumE6 [.orow 86 KR2 l, Eng.iv w, Eng.iv g, Eng.iv t])) =
    some ([(badS w g t, false), (g == 0, false), (g == 0, false), (decide (0 + l.length ≤ l.length), true), (decide ((List.take l.length (List.drop 0 l)).length ≤ 100000), true), (g == 0, false), (invC okSu (pSu l w g t) ⟨0, 0, 0⟩, true)], .tup [Eng.iv (eSu l w g t).s, Eng.iv (eSu l w g t).n]) := by kernel_rfl
/-- what is summed at t -/
def plV (w g t : Int) (l : List TV) : List TV := l.filter (pw g (nN w g) (Int.tdiv t g) (Int.tdiv (newV l) g))
def okL (l : List TV) (t : Int) : Prop := l.length ≤ 100000 ∧ t ≤ 9223372036854775807 ∧ ∀ x ∈ l, x.2 ≤ 9223372036854775807
noncomputable def sumC6 : Eng.Spec
  | [.orow ty [.int .i64, .int .i64] l, .s (.int .i64 w), .s (.int .i64 g), .s (.int .i64 t)] => if ty = 86 then .ite none (badS w g t) (.ret (.tup [Eng.iv 0, Eng.iv 0])) (.ite none (pB (okL l t)) (.ret (.tup [Eng.iv (Mil.cutV (sv (plV w g t l))), Eng.iv ((plV w g t l).length : Int)])) .fail) else .fail
  | _ => .fail
theorem tdiv_neg1 {g : Int} (h : 1 ≤ g) : -1 ≤ Int.tdiv (-1) g ∧ Int.tdiv (-1) g ≤ 0 := by
  have e : Int.tdiv (-1) g = -(Int.tdiv 1 g) := Int.neg_tdiv 1 g
  obtain ⟨q1, q2⟩ := tdiv_bd (t := 1) (g := g) (by omega) h
  omega
theorem sum_run6 (l : List TV) (w g t : Int) (hb : badS w g t = false) (hl : okL l t) : (sumE6 [.orow 86 KR2 l, Eng.iv w, Eng.iv g, Eng.iv t]).eval = some (.tup [Eng.iv (Mil.cutV (sv (plV w g t l))), Eng.iv ((plV w g t l).length : Int)]) := by
  rw [← T.eval_anon (t := sumE6 _)]
  obtain ⟨l1, l2, l3⟩ := hl
  have hb2 := hb
  unfold badS at hb2
  have hN : badN w g = false := by cases h : badN w g with
    | true => rw [h] at hb2; cases hb2
    | false => rfl
  rw [hN] at hb2
  have t0 : ¬ t < 0 := of_decide_eq_false hb2
  obtain ⟨g1, g2, w1⟩ := badN_false.1 hN
  obtain ⟨q1, q2⟩ := tdiv_bd (t := t) (g := g) (by omega) g1
  have g0 : (g == 0) = false := by rw [beq_eq_false_iff_ne]; omega
  have hnew : -1 ≤ Int.tdiv (newV l) g ∧ Int.tdiv (newV l) g ≤ 1099511627776 := by
    obtain ⟨n1, n2⟩ := newV_bd l
    by_cases h : newV l = -1
    · rw [h]; have := tdiv_neg1 g1; omega
    · have := tdiv_bd (t := newV l) (g := g) (by omega) g1; omega
  have ep : pSu l w g t = ⟨l.length, (l.length : Int), l, g, (nN w g : Nat), Int.tdiv t g, Int.tdiv (newV l) g⟩ := by
    unfold pSu
    rw [List.drop_zero, List.take_length, nnI_is g1 g2 w1, wrap64_in (n := Int.tdiv t g) (by omega) (by omega), wrap64_in (n := Int.tdiv (newV l) g) (by omega) (by omega)]
  have h0 : okSu (pSu l w g t) ⟨0, 0, 0⟩ := by
    rw [ep]
    exact ⟨rfl, rfl, l1, g1, q1, by show Int.tdiv t g ≤ _; omega, hnew.1, hnew.2, l3, Int.le_refl _, by show (0 : Int) ≤ l.length; omega, rfl, rfl⟩
  obtain ⟨k1, k2⟩ := endC stepSu h0
  have k1 : okSu (pSu l w g t) (eSu l w g t) := k1
  have k2 : goSu (pSu l w g t) (eSu l w g t) = false := k2
  refine (T.path_eval (sum_way1 l w g t) ⟨hb, g0, g0, decide_eq_true (by omega), decide_eq_true (by rw [List.drop_zero, List.take_length]; exact l1), g0, invC_is h0, trivial⟩).trans ?_
  rw [ep] at k1 k2
  have q1 : (eSu l w g t).i ≤ (l.length : Int) := k1.i1
  have q2 : ¬ (eSu l w g t).i < (l.length : Int) := of_decide_eq_false k2
  have q3 : (eSu l w g t).i.toNat = l.length := by omega
  have s1 : (eSu l w g t).s = Mil.cutV (sv ((l.take (eSu l w g t).i.toNat).filter (pw g (nN w g) (Int.tdiv t g) (Int.tdiv (newV l) g)))) := k1.s
  have s2 : (eSu l w g t).n = (((l.take (eSu l w g t).i.toNat).filter (pw g (nN w g) (Int.tdiv t g) (Int.tdiv (newV l) g))).length : Int) := k1.n
  rw [q3, List.take_length] at s1 s2
  rw [s1, s2]; rfl
theorem sumC6_ok : SpecOk Try.prog 57 sumC6 := sumE6_ok.of_eval fun args v h => by
  unfold sumC6 at h
  split at h
  · split at h
    · rename_i l w g t ht
      subst ht
      cases hb : badS w g t with
      | true =>
        rw [T.eval, hb] at h
        obtain rfl := Option.some.inj h
        rw [← T.eval_anon (t := sumE6 _)]
        exact T.path_eval (sum_way0 l w g t) ⟨hb, trivial⟩
      | false =>
        rw [T.eval, hb] at h
        obtain ⟨hc, h⟩ := ite_some h
        obtain rfl := Option.some.inj h
        exact sum_run6 _ _ _ _ hb (pB_ok hc)
    · cases h
  · cases h
end Go.Proofs.Ytheknddbbgjpkaa.Pla
