/- Layer 21: Count, Ready, Ripe, find: their loops' rounds. -/
import Derived.Test.YtfnadebkobfemaaLifU
namespace Go.Proofs.Ytfnadebkobfemaa.Lif
open Go.Eng Go.RowKit
set_option linter.unusedVariables false
set_option linter.unusedSimpArgs false
/-! ### Count -/
def cn1 (c : Int) : Bool → Int
  | true => IntKind.wrap .i64 (c + 1)
  | false => c
theorem wayCn1 (p : PCn) (a : ACn) (e : Bool) : T.path [true, true, true, e] (rdCn p a) = some ([(decide (a.i < p.z), true), (idR p.l p.k a.i, true), (ldR p.l a.i, true), ((g4 p.l a.i).2.1 != 3, e)], (.normal, FCn p ⟨cn1 a.c e, IntKind.wrap .i64 (a.i + 1)⟩)) := by cases e <;> kernel_rfl
theorem wayCnx (p : PCn) (a : ACn) : T.path [false] (rdCn p a) = some ([(decide (a.i < p.z), false)], (.exit 0, FCn p a)) := by kernel_rfl
def okCn (p : PCn) (a : ACn) : Prop := p.k = p.l.length ∧ p.z = p.l.length ∧ p.l.length ≤ 100000 ∧ 0 ≤ a.i ∧ a.i ≤ p.z ∧ a.c = cnt (p.l.take a.i.toNat)
def goCn (p : PCn) (a : ACn) : Bool := decide (a.i < p.z)
def muCn (p : PCn) (a : ACn) : Nat := (p.z - a.i).toNat
theorem cnt_le (l : List R4) : cnt l ≤ l.length := List.length_filter_le _ _
theorem cnt_next {l : List R4} {i : Int} (h : 0 ≤ i) (hj : i.toNat < l.length) : cnt (l.take (i + 1).toNat) = cnt (l.take i.toNat) + (if stay l[i.toNat] then 1 else 0) := by
  unfold cnt
  rw [take_next h hj, List.filter_append, List.length_append]
  congr 1
  cases hs : stay l[i.toNat] <;> simp [hs]
theorem g4_at {l : List R4} {i : Int} (hj : i.toNat < l.length) : g4 l i = l[i.toNat] := getD0 rfl hj
theorem stepCn (p : PCn) (a : ACn) (h : okCn p a) (hg : goCn p a = true) : ∃ b, stepC okCn rdCn FCn muCn p a b := by
  obtain ⟨h1, h2, h3, h4, h5, h6⟩ := id h
  have hi : a.i < p.z := of_decide_eq_true hg
  have hw : IntKind.wrap .i64 (a.i + 1) = a.i + 1 := wrap64_in (by omega) (by omega)
  have hj : a.i.toNat < p.l.length := by omega
  obtain ⟨x1, x2⟩ := idR_is (g := p.l) (k := p.k) (i := a.i) h1 h4 (by omega)
  have hc := cnt_le (p.l.take a.i.toNat)
  have hl : (p.l.take a.i.toNat).length ≤ p.l.length := by rw [List.length_take]; omega
  have hcn := cnt_next h4 hj
  refine ⟨_, T.path_eval (wayCn1 p a (stay (g4 p.l a.i))) ⟨hg, x1, x2, rfl, trivial⟩, ⟨h1, h2, h3, ?_, ?_, ?_⟩, ?_⟩
  · show 0 ≤ IntKind.wrap .i64 (a.i + 1); rw [hw]; omega
  · show IntKind.wrap .i64 (a.i + 1) ≤ p.z; rw [hw]; omega
  · show cn1 a.c (stay (g4 p.l a.i)) = cnt (p.l.take (IntKind.wrap .i64 (a.i + 1)).toNat)
    rw [hw, hcn, g4_at hj]
    cases hs : stay p.l[a.i.toNat]
    · show a.c = _; rw [h6]; simp
    · show IntKind.wrap .i64 (a.c + 1) = _
      rw [wrap64_in (by omega) (by omega), h6]; simp
  · show (p.z - IntKind.wrap .i64 (a.i + 1)).toNat < (p.z - a.i).toNat
    rw [hw]; omega
theorem exCn (p : PCn) (a : ACn) (h : okCn p a) (hg : goCn p a = false) : (rdCn p a).eval = some (.exit 0, FCn p a) := T.path_eval (wayCnx p a) ⟨hg, trivial⟩
noncomputable def famCn : LSpec := famC [0,3,11,12,13] SCn 1000 1000 24 decCn okCn goCn rdCn FCn muCn (.exit 0)
theorem lpCn_ok : LoopOk J0 lpCn famCn := famC_ok (vs := vsCn) (bs := bsCn) J0_ok mixed (noLoops_ok _) decCn_ok (by simp) (fun _ _ => rfl) (fun _ _ => rfl) stepCn exCn
/-! ### Ready -/
def ry1 (a : ARy) (x : Int) : Bool → ARy
  | true => ⟨List.take a.j a.W ++ [x], a.j + [x].length, IntKind.wrap .i64 (a.i + 1)⟩
  | false => ⟨a.W, a.j, IntKind.wrap .i64 (a.i + 1)⟩
theorem wayRy1 (p : PRy) (a : ARy) : T.path [true, true, true, true, true] (rdRy p a) = some ([(decide (a.i < p.z), true), (idR p.l p.k a.i, true), (ldR p.l a.i, true), ((g4 p.l a.i).2.1 == 2, true), (apC a.j a.W (g4 p.l a.i).1, true)], (.normal, FRy p (ry1 a (g4 p.l a.i).1 true))) := by kernel_rfl
theorem wayRy0 (p : PRy) (a : ARy) : T.path [true, true, true, false] (rdRy p a) = some ([(decide (a.i < p.z), true), (idR p.l p.k a.i, true), (ldR p.l a.i, true), ((g4 p.l a.i).2.1 == 2, false)], (.normal, FRy p (ry1 a (g4 p.l a.i).1 false))) := by kernel_rfl
theorem wayRyx (p : PRy) (a : ARy) : T.path [false] (rdRy p a) = some ([(decide (a.i < p.z), false)], (.exit 0, FRy p a)) := by kernel_rfl
def okRy (p : PRy) (a : ARy) : Prop := p.k = p.l.length ∧ p.z = p.l.length ∧ p.l.length ≤ 100000 ∧ 0 ≤ a.i ∧ a.i ≤ p.z ∧ a.j = a.W.length ∧ a.W = rdy (p.l.take a.i.toNat)
def goRy (p : PRy) (a : ARy) : Bool := decide (a.i < p.z)
def muRy (p : PRy) (a : ARy) : Nat := (p.z - a.i).toNat
theorem rdy_le (l : List R4) : (rdy l).length ≤ l.length := by unfold rdy; rw [List.length_map]; exact List.length_filter_le _ _
theorem rdy_next {l : List R4} {i : Int} (h : 0 ≤ i) (hj : i.toNat < l.length) : rdy (l.take (i + 1).toNat) = rdy (l.take i.toNat) ++ (bif l[i.toNat].2.1 == 2 then [l[i.toNat].1] else []) := by
  unfold rdy
  rw [take_next h hj, List.filter_append, List.map_append]
  congr 1
  cases hs : l[i.toNat].2.1 == 2 <;> simp [List.filter, hs]
theorem stepRy (p : PRy) (a : ARy) (h : okRy p a) (hg : goRy p a = true) : ∃ b, stepC okRy rdRy FRy muRy p a b := by
  obtain ⟨h1, h2, h3, h4, h5, h6, h7⟩ := id h
  have hi : a.i < p.z := of_decide_eq_true hg
  have hw : IntKind.wrap .i64 (a.i + 1) = a.i + 1 := wrap64_in (by omega) (by omega)
  have hj : a.i.toNat < p.l.length := by omega
  obtain ⟨x1, x2⟩ := idR_is (g := p.l) (k := p.k) (i := a.i) h1 h4 (by omega)
  have hl : a.W.length ≤ p.l.length := by
    rw [h7]
    exact Nat.le_trans (rdy_le _) (by rw [List.length_take]; omega)
  have hn := rdy_next h4 hj
  have hmu : (p.z - IntKind.wrap .i64 (a.i + 1)).toNat < (p.z - a.i).toNat := by rw [hw]; omega
  have i1 : 0 ≤ IntKind.wrap .i64 (a.i + 1) := by rw [hw]; omega
  have i2 : IntKind.wrap .i64 (a.i + 1) ≤ p.z := by rw [hw]; omega
  cases hs : (g4 p.l a.i).2.1 == 2
  · refine ⟨_, T.path_eval (wayRy0 p a) ⟨hg, x1, x2, hs, trivial⟩, ⟨h1, h2, h3, i1, i2, h6, ?_⟩, hmu⟩
    show a.W = rdy (p.l.take (IntKind.wrap .i64 (a.i + 1)).toNat)
    rw [g4_at hj] at hs
    rw [hw, hn, hs, cond_false, List.append_nil, h7]
  · refine ⟨_, T.path_eval (wayRy1 p a) ⟨hg, x1, x2, hs, apC_is _ h6 (by omega), trivial⟩, ⟨h1, h2, h3, i1, i2, ?_, ?_⟩, hmu⟩
    · show a.j + 1 = (List.take a.j a.W ++ [(g4 p.l a.i).1]).length
      rw [h6, List.take_length]; simp
    · show List.take a.j a.W ++ [(g4 p.l a.i).1] = rdy (p.l.take (IntKind.wrap .i64 (a.i + 1)).toNat)
      rw [g4_at hj] at hs
      rw [hw, hn, hs, cond_true, h6, List.take_length, h7, g4_at hj]
theorem exRy (p : PRy) (a : ARy) (h : okRy p a) (hg : goRy p a = false) : (rdRy p a).eval = some (.exit 0, FRy p a) := T.path_eval (wayRyx p a) ⟨hg, trivial⟩
noncomputable def famRy : LSpec := famC [0,3,11,12,13] SRy 1000 1001 27 decRy okRy goRy rdRy FRy muRy (.exit 0)
theorem lpRy_ok : LoopOk J0 lpRy famRy := famC_ok (vs := vsRy) (bs := bsRy) J0_ok mixed (noLoops_ok _) decRy_ok (by simp) (fun _ _ => rfl) (fun _ _ => rfl) stepRy exRy
/-! ### Ripe -/
theorem wayRi1 (p : PRi) (a : ARi) : T.path [true, true, true, true, true, true] (rdRi p a) = some ([(decide (a.i < p.z), true), (idR a.l p.n a.i, true), (ldR a.l a.i, true), (bif ((g4 a.l a.i).2.1 == 1) == true && true then ldR a.l a.i else true, true), (bif (g4 a.l a.i).2.1 == 1 then decide (IntKind.wrap .i64 ((g4 a.l a.i).2.2.2 + p.a) ≤ p.now) else false, true), (ldR a.l a.i, true)],
    (.normal, FRi p ⟨a.l.set (0 + a.i.toNat) ((g4 a.l a.i).1, 2, (g4 a.l a.i).2.2.1, (g4 a.l a.i).2.2.2), IntKind.wrap .i64 (a.i + 1)⟩)) := by kernel_rfl
theorem wayRi0 (p : PRi) (a : ARi) : T.path [true, true, true, true, false] (rdRi p a) = some ([(decide (a.i < p.z), true), (idR a.l p.n a.i, true), (ldR a.l a.i, true), (bif ((g4 a.l a.i).2.1 == 1) == true && true then ldR a.l a.i else true, true), (bif (g4 a.l a.i).2.1 == 1 then decide (IntKind.wrap .i64 ((g4 a.l a.i).2.2.2 + p.a) ≤ p.now) else false, false)],
    (.normal, FRi p ⟨a.l, IntKind.wrap .i64 (a.i + 1)⟩)) := by kernel_rfl
theorem wayRix (p : PRi) (a : ARi) : T.path [false] (rdRi p a) = some ([(decide (a.i < p.z), false)], (.exit 0, FRi p a)) := by kernel_rfl
/-- times of pods that may be -/
def okT (l : List R4) : Prop := ∀ p ∈ l, 0 ≤ p.2.2.2 ∧ p.2.2.2 ≤ 1099511627776
theorem ripe_okT {now a : Int} {l : List R4} (h : okT l) : okT (l.map (ripe now a)) := by
  intro p hp
  obtain ⟨q, hq, rfl⟩ := List.mem_map.1 hp
  have := h q hq
  unfold ripe
  cases q.2.1 == 1 && decide (q.2.2.2 + a ≤ now) <;> exact this
def ripeTo (now a : Int) (l : List R4) (k : Nat) : List R4 := (l.take k).map (ripe now a) ++ l.drop k
theorem ripeTo_len (now a : Int) (l : List R4) (k : Nat) (hk : k ≤ l.length) : (ripeTo now a l k).length = l.length := by
  unfold ripeTo; rw [List.length_append, List.length_map, List.length_take, List.length_drop]; omega
theorem ripeTo_at {now a : Int} {l : List R4} {k : Nat} (hk : k < l.length) : (ripeTo now a l k)[k]? = some l[k] := by
  unfold ripeTo
  rw [List.getElem?_append_right (by rw [List.length_map, List.length_take]; omega), List.length_map, List.length_take, Nat.min_eq_left (Nat.le_of_lt hk), Nat.sub_self, List.getElem?_drop, Nat.add_zero, List.getElem?_eq_getElem hk]
theorem ripeTo_next {now a : Int} {l : List R4} {k : Nat} (hk : k < l.length) : (ripeTo now a l k).set k (ripe now a l[k]) = ripeTo now a l (k + 1) := by
  have e : l.drop k = l[k] :: l.drop (k + 1) := List.drop_eq_getElem_cons hk
  unfold ripeTo
  rw [List.set_append_right _ _ (by rw [List.length_map, List.length_take]; omega), List.length_map, List.length_take, Nat.min_eq_left (Nat.le_of_lt hk), Nat.sub_self, e, List.set_cons_zero, List.take_add_one, List.getElem?_eq_getElem hk, List.map_append, List.append_assoc]
  rfl
def okRi (p : PRi) (a : ARi) : Prop := p.n = p.l0.length ∧ p.z = p.l0.length ∧ p.l0.length ≤ 100000 ∧ okT p.l0 ∧ 0 ≤ p.a ∧ p.a ≤ 100 ∧ 0 ≤ a.i ∧ a.i ≤ p.z ∧ a.l = ripeTo p.now p.a p.l0 a.i.toNat
def goRi (p : PRi) (a : ARi) : Bool := decide (a.i < p.z)
def muRi (p : PRi) (a : ARi) : Nat := (p.z - a.i).toNat
theorem set_same' {α : Type} {l : List α} {k : Nat} {x : α} (h : l[k]? = some x) : l.set k x = l := by
  obtain ⟨hk, rfl⟩ := List.getElem?_eq_some_iff.1 h
  exact List.set_getElem_self hk
theorem stepRi (p : PRi) (a : ARi) (h : okRi p a) (hg : goRi p a = true) : ∃ b, stepC okRi rdRi FRi muRi p a b := by
  obtain ⟨h1, h2, h3, h4, h5, h6, h7, h8, h9⟩ := id h
  have hi : a.i < p.z := of_decide_eq_true hg
  have hw : IntKind.wrap .i64 (a.i + 1) = a.i + 1 := wrap64_in (by omega) (by omega)
  have hj : a.i.toNat < p.l0.length := by omega
  have hl : a.l.length = p.l0.length := by rw [h9]; exact ripeTo_len _ _ _ _ (by omega)
  obtain ⟨x1, x2⟩ := idR_is (g := a.l) (k := p.n) (i := a.i) (by omega) h7 (by omega)
  have hat : a.l[a.i.toNat]? = some p.l0[a.i.toNat] := by rw [h9]; exact ripeTo_at hj
  have hg4 : g4 a.l a.i = p.l0[a.i.toNat] := by
    rw [g4_at (by omega)]
    exact (List.getElem?_eq_some_iff.1 hat).2
  have hT := h4 _ (List.getElem_mem hj)
  have hmu : (p.z - IntKind.wrap .i64 (a.i + 1)).toNat < (p.z - a.i).toNat := by rw [hw]; omega
  have i1 : 0 ≤ IntKind.wrap .i64 (a.i + 1) := by rw [hw]; omega
  have i2 : IntKind.wrap .i64 (a.i + 1) ≤ p.z := by rw [hw]; omega
  have hi1 : (a.i + 1).toNat = a.i.toNat + 1 := by omega
  have hnx := ripeTo_next (now := p.now) (a := p.a) hj
  have hwr : IntKind.wrap .i64 ((g4 a.l a.i).2.2.2 + p.a) = (g4 a.l a.i).2.2.2 + p.a := by rw [hg4]; exact wrap64_in (by omega) (by omega)
  have hc : (bif ((g4 a.l a.i).2.1 == 1) == true && true then ldR a.l a.i else true) = true := by rw [x2]; cases ((g4 a.l a.i).2.1 == 1) <;> rfl
  cases hs : (bif (g4 a.l a.i).2.1 == 1 then decide (IntKind.wrap .i64 ((g4 a.l a.i).2.2.2 + p.a) ≤ p.now) else false)
  · refine ⟨_, T.path_eval (wayRi0 p a) ⟨hg, x1, x2, hc, hs, trivial⟩, ⟨h1, h2, h3, h4, h5, h6, i1, i2, ?_⟩, hmu⟩
    show a.l = ripeTo p.now p.a p.l0 (IntKind.wrap .i64 (a.i + 1)).toNat
    rw [hw, hi1, ← hnx, h9]
    symm
    apply set_same'
    rw [hwr, hg4] at hs
    have : ripe p.now p.a p.l0[a.i.toNat] = p.l0[a.i.toNat] := by
      unfold ripe
      cases q : p.l0[a.i.toNat].2.1 == 1
      · rfl
      · rw [q] at hs; simp only [cond_true] at hs; rw [hs]; rfl
    rw [this]; exact ripeTo_at hj
  · refine ⟨_, T.path_eval (wayRi1 p a) ⟨hg, x1, x2, hc, hs, x2, trivial⟩, ⟨h1, h2, h3, h4, h5, h6, i1, i2, ?_⟩, hmu⟩
    show a.l.set (0 + a.i.toNat) _ = ripeTo p.now p.a p.l0 (IntKind.wrap .i64 (a.i + 1)).toNat
    rw [hw, hi1, ← hnx, h9.symm, Nat.zero_add]
    congr 1
    rw [hwr, hg4] at hs
    rw [hg4]
    unfold ripe
    cases q : p.l0[a.i.toNat].2.1 == 1
    · rw [q] at hs; simp at hs
    · rw [q] at hs; simp only [cond_true] at hs; rw [hs]; rfl
theorem exRi (p : PRi) (a : ARi) (h : okRi p a) (hg : goRi p a = false) : (rdRi p a).eval = some (.exit 0, FRi p a) := T.path_eval (wayRix p a) ⟨hg, trivial⟩
noncomputable def famRi : LSpec := famC [0,1,2,21,22,23] SRi 1000 1000 51 decRi okRi goRi rdRi FRi muRi (.exit 0)
theorem lpRi_ok : LoopOk J0 lpRi famRi := famC_ok (vs := vsRi) (bs := bsRi) J0_ok mixed (noLoops_ok _) decRi_ok (by simp) (fun _ _ => rfl) (fun _ _ => rfl) stepRi exRi
/-! ### find -/
def spotV (i : Int) : V := .iface 111 (iv i)
def noV : V := .iface 151 (.agg [])
theorem wayFi0 (p : PFi) (a : AFi) : T.path [true, true, true, false] (rdFi p a) = some ([(decide (a.i < p.z), true), (idR p.l p.k a.i, true), (ldR p.l a.i, true), ((g4 p.l a.i).1 == p.id, false)], (.normal, FFi p ⟨IntKind.wrap .i64 (a.i + 1)⟩)) := by kernel_rfl
theorem wayFi1 (p : PFi) (a : AFi) : T.path [true, true, true, true] (rdFi p a) = some ([(decide (a.i < p.z), true), (idR p.l p.k a.i, true), (ldR p.l a.i, true), ((g4 p.l a.i).1 == p.id, true)], (.ret, mkSt [0,4] [0,1] 1000 26 [.ptr 0 0, spotV a.i] (bsFi p a))) := by kernel_rfl
theorem wayFix (p : PFi) (a : AFi) : T.path [false] (rdFi p a) = some ([(decide (a.i < p.z), false)], (.exit 0, mkSt [0,4] [0,1] 1000 26 [.ptr 0 0, .junk] (bsFi p a))) := by kernel_rfl
def okFi (p : PFi) (a : AFi) : Prop := p.k = p.l.length ∧ p.z = p.l.length ∧ p.l.length ≤ 100000 ∧ 0 ≤ a.i ∧ a.i ≤ p.z ∧ findI p.id (p.l.take a.i.toNat) = none
def goFi (p : PFi) (a : AFi) : Bool := decide (a.i < p.z) && !((g4 p.l a.i).1 == p.id)
def muFi (p : PFi) (a : AFi) : Nat := (p.z - a.i).toNat
def outFi (p : PFi) (a : AFi) : T (Ex × St) := .ite none (findI p.id p.l).isSome (.ret (.ret, mkSt [0,4] [0,1] 1000 26 [.ptr 0 0, spotV ((findI p.id p.l).getD 0 : Nat)] (bsFi p a))) (.ret (.exit 0, mkSt [0,4] [0,1] 1000 26 [.ptr 0 0, .junk] (bsFi p a)))
theorem findI_next {id : Int} {l : List R4} {i : Int} (h : 0 ≤ i) (hj : i.toNat < l.length) (hn : findI id (l.take i.toNat) = none) (hb : (l[i.toNat].1 == id) = false) : findI id (l.take (i + 1).toNat) = none := by
  unfold findI at *
  rw [take_next h hj, List.findIdx?_append, hn]
  simp [hb]
theorem findI_hit {id : Int} {l : List R4} {k : Nat} (hj : k < l.length) (hn : findI id (l.take k) = none) (hb : (l[k].1 == id) = true) : findI id l = some k := by
  have e : l = l.take k ++ (l[k] :: l.drop (k + 1)) := by
    rw [← List.drop_eq_getElem_cons hj, List.take_append_drop]
  unfold findI at *
  conv => lhs; rw [e]
  rw [List.findIdx?_append, hn, List.findIdx?_cons, hb]
  simp [List.length_take, Nat.min_eq_left (Nat.le_of_lt hj)]
theorem stepFi (p : PFi) (a : AFi) (h : okFi p a) (hg : goFi p a = true) : ∃ b, stepC okFi rdFi FFi muFi p a b := by
  obtain ⟨h1, h2, h3, h4, h5, h6⟩ := id h
  obtain ⟨hg1, hg2⟩ := (Bool.and_eq_true _ _).mp hg
  have hi : a.i < p.z := of_decide_eq_true hg1
  have hw : IntKind.wrap .i64 (a.i + 1) = a.i + 1 := wrap64_in (by omega) (by omega)
  have hj : a.i.toNat < p.l.length := by omega
  obtain ⟨x1, x2⟩ := idR_is (g := p.l) (k := p.k) (i := a.i) h1 h4 (by omega)
  have hb : ((g4 p.l a.i).1 == p.id) = false := by cases q : (g4 p.l a.i).1 == p.id <;> simp_all
  refine ⟨_, T.path_eval (wayFi0 p a) ⟨hg1, x1, x2, hb, trivial⟩, ⟨h1, h2, h3, ?_, ?_, ?_⟩, ?_⟩
  · show 0 ≤ IntKind.wrap .i64 (a.i + 1); rw [hw]; omega
  · show IntKind.wrap .i64 (a.i + 1) ≤ p.z; rw [hw]; omega
  · show findI p.id (p.l.take (IntKind.wrap .i64 (a.i + 1)).toNat) = none
    rw [hw]
    rw [g4_at hj] at hb
    exact findI_next h4 hj h6 hb
  · show (p.z - IntKind.wrap .i64 (a.i + 1)).toNat < (p.z - a.i).toNat
    rw [hw]; omega
theorem exFi (p : PFi) (a : AFi) (h : okFi p a) (hg : goFi p a = false) (r : Ex × St) (hr : (outFi p a).eval = some r) : r.1 ≠ .normal ∧ (rdFi p a).eval = some r := by
  obtain ⟨h1, h2, h3, h4, h5, h6⟩ := id h
  cases hi : decide (a.i < p.z)
  · have hi' : ¬ a.i < p.z := of_decide_eq_false hi
    have hn : findI p.id p.l = none := by
      have : p.l.take a.i.toNat = p.l := List.take_of_length_le (by omega)
      rw [this] at h6; exact h6
    simp only [outFi, hn, Option.isSome_none, T.eval, cond_false, Option.some.injEq] at hr
    subst hr
    exact ⟨by simp, T.path_eval (wayFix p a) ⟨hi, trivial⟩⟩
  · have hj : a.i.toNat < p.l.length := by have := of_decide_eq_true hi; omega
    have hb : ((g4 p.l a.i).1 == p.id) = true := by
      unfold goFi at hg; rw [hi] at hg
      cases q : (g4 p.l a.i).1 == p.id
      · rw [q] at hg; simp at hg
      · rfl
    obtain ⟨x1, x2⟩ := idR_is (g := p.l) (k := p.k) (i := a.i) h1 h4 (by have := of_decide_eq_true hi; omega)
    have hn : findI p.id p.l = some a.i.toNat := findI_hit hj h6 (by rw [g4_at hj] at hb; exact hb)
    simp only [outFi, hn, Option.isSome_some, T.eval, cond_true, Option.some.injEq] at hr
    subst hr
    refine ⟨by simp, (T.path_eval (wayFi1 p a) ⟨hi, x1, x2, hb, trivial⟩).trans ?_⟩
    rw [show a.i = ((a.i.toNat : Nat) : Int) by omega]; rfl
noncomputable def famFi : LSpec := famE [0,1,10,11,12] SFi SFix 1000 1000 26 decFi okFi goFi rdFi FFi muFi outFi
theorem lpFi_ok : LoopOk J0 lpFi famFi := famE_ok (vs := vsFi) (bs := bsFi) J0_ok mixed (noLoops_ok _) decFi_ok (fun _ _ => rfl) (fun _ _ => rfl) stepFi exFi
end Go.Proofs.Ytfnadebkobfemaa.Lif
