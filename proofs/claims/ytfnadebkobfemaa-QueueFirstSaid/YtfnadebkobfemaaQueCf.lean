/- Layer 20: QueueFirst: the outer round. -/
import Derived.Test.YtfnadebkobfemaaQueCd
import Derived.Test.YtfnadebkobfemaaQueCe
namespace Go.Proofs.Ytfnadebkobfemaa.Que
open Go.Eng Go.RowKit
set_option linter.unusedVariables false
set_option linter.unusedSimpArgs false
theorem wB_small {t now age : Int} (h1 : 0 ≤ t) (h2 : t ≤ now) (h3 : now ≤ 1000) (h4 : 0 ≤ age) (h5 : age ≤ 1000) : wB t now age = decide (age ≤ now - t) := by
  unfold wB
  rw [decide_eq_true h2]
  show decide _ = decide _
  simp only [wrapu64]
  refine decide_eq_decide.2 ?_
  split <;> omega
theorem cI_set {c : List Int} {x z v : Int} (hx : 0 ≤ x) (hl : x.toNat < c.length) (hz : 0 ≤ z) : cI (c.set x.toNat v) z = if z = x then v else cI c z := by
  unfold cI
  by_cases e : z = x
  · rw [if_pos e, e]; simp [hl]
  · rw [if_neg e, List.getD_eq_getElem?_getD, List.getD_eq_getElem?_getD, List.getElem?_set_ne (by omega)]
def okFb (p : PFb) (a : AFb) : Prop := p.kg = p.g.length ∧ p.d = 50 ∧ 0 ≤ a.y ∧ a.y ≤ a.x ∧ a.x ≤ a.i ∧ a.i ≤ 120 ∧ a.c.length = 130 ∧ a.n = a.l.length ∧ (a.l.length : Int) = a.x - a.y ∧ (∀ j : Nat, (h : j < a.l.length) → a.l[j] = (a.y + j, cI a.c (a.y + j))) ∧ (∀ z : Int, 0 ≤ z → z < a.x → 0 ≤ cI a.c z ∧ cI a.c z ≤ a.i) ∧ ∃ o, a.u = lastV o ∧ ∀ t, o = some t → t ≤ a.i
def goFb (p : PFb) (a : AFb) : Bool := fbG p a.i
def muFb (p : PFb) (a : AFb) : Nat := (120 - a.i).toNat
theorem stepFb (p : PFb) (a : AFb) (h : okFb p a) (hg : goFb p a = true) : ∃ b, stepC okFb rdFb FFb muFb p a b := by
  obtain ⟨x, y, i, c, u, n, l⟩ := a
  obtain ⟨h1, h2, h3, h4, h5, h6, h7, h8, h9, h10, h11, o, h12, h13⟩ := id h
  simp only at h3 h4 h5 h6 h7 h8 h9 h10 h11 h12 h13
  subst h12
  have hg0 : (decide (i < (p.kg : Int)) && decide (i < 120)) = true := by rw [← cond_and]; exact hg
  simp only [Bool.and_eq_true, decide_eq_true_eq] at hg0
  obtain ⟨hi, hi2⟩ := hg0
  have hw : IntKind.wrap .i64 (i + 1) = i + 1 := wrap64_in (by omega) (by omega)
  have hx1 : IntKind.wrap .i64 (x + 1) = x + 1 := wrap64_in (by omega) (by omega)
  have hy1 : IntKind.wrap .i64 (y + 1) = y + 1 := wrap64_in (by omega) (by omega)
  have hxy : IntKind.wrap .i64 (x - y) = x - y := wrap64_in (by omega) (by omega)
  obtain ⟨x1, x2⟩ := idR_is (g := p.g) (k := p.kg) (i := i) h1 (by omega) hi
  have hd : allSay (fbH p i) := ⟨hg, x1, x2, rfl, trivial⟩
  have mu : (120 - IntKind.wrap .i64 (i + 1)).toNat < (120 - i).toNat := by rw [hw]; omega
  have up : ∀ z : Int, 0 ≤ z → z < x → 0 ≤ cI c z ∧ cI c z ≤ IntKind.wrap .i64 (i + 1) := fun z z1 z2 => by
    have := h11 z z1 z2; rw [hw]; omega
  have hP : fbP x i o = false := by
    unfold fbP
    cases o with
    | none => rw [decide_eq_false (show ¬ x < 0 by omega)]; rfl
    | some t =>
      have := h13 t rfl
      show (bif decide (x < 0) then true else decide (i < t)) = false
      rw [decide_eq_false (show ¬ x < 0 by omega), decide_eq_false (show ¬ i < t by omega)]; rfl
  have same : okFb p (fbA x y (IntKind.wrap .i64 (i + 1)) c o n l) := ⟨h1, h2, h3, h4, by show x ≤ IntKind.wrap .i64 (i + 1); rw [hw]; omega, by show IntKind.wrap .i64 (i + 1) ≤ 120; rw [hw]; omega, h7, h8, h9, h10, up, o, rfl, fun t ht => by show t ≤ IntKind.wrap .i64 (i + 1); have := h13 t ht; rw [hw]; omega⟩
  have put : ∀ e, allSay (fbC (fbK p i) e) → ∃ b, stepC okFb rdFb FFb muFb p ⟨x, y, i, c, lastV o, n, l⟩ b := by
    intro e hp
    by_cases hf : 50 ≤ n
    · exact ⟨_, T.path_eval (wayF1 p x y i c o n l e) (allSay_append hd (allSay_append hp ⟨hP, by rw [h2]; exact decide_eq_true (by omega), by rw [hxy, decide_eq_false (show ¬ x - y < 50 by omega)]; rfl, rfl, trivial⟩)), same, mu⟩
    · have hn : List.take n l = l := by rw [h8, List.take_length]
      have cx : ∀ z, 0 ≤ z → cI (c.set x.toNat i) z = if z = x then i else cI c z := fun z hz => cI_set (by omega) (by omega) hz
      have nw : okFb p (fbA (IntKind.wrap .i64 (x + 1)) y (IntKind.wrap .i64 (i + 1)) (c.set x.toNat i) (some i) (n + [((x, i) : Int × Int)].length) (List.take n l ++ [((x, i) : Int × Int)])) := by
        refine ⟨h1, h2, h3, ?_, ?_, ?_, ?_, ?_, ?_, ?_, ?_, some i, rfl, ?_⟩
        · show y ≤ IntKind.wrap .i64 (x + 1); rw [hx1]; omega
        · show IntKind.wrap .i64 (x + 1) ≤ IntKind.wrap .i64 (i + 1); rw [hx1, hw]; omega
        · show IntKind.wrap .i64 (i + 1) ≤ 120; rw [hw]; omega
        · show (c.set x.toNat i).length = 130; rw [List.length_set]; exact h7
        · show n + 1 = (List.take n l ++ [_]).length; rw [hn, h8]; simp
        · show ((List.take n l ++ [((x, i) : Int × Int)]).length : Int) = IntKind.wrap .i64 (x + 1) - y
          rw [hn, hx1, List.length_append, List.length_singleton]; omega
        · show ∀ j : Nat, (h : j < (List.take n l ++ [((x, i) : Int × Int)]).length) → (List.take n l ++ [((x, i) : Int × Int)])[j] = (y + j, cI (c.set x.toNat i) (y + j))
          rw [hn]
          intro j hj
          rw [List.length_append, List.length_singleton] at hj
          rw [cx _ (by omega)]
          by_cases q : j < l.length
          · rw [List.getElem_append_left q, h10 j q, if_neg (by omega)]
          · have : j = l.length := by omega
            subst this
            rw [if_pos (by omega)]
            simp
            omega
        · show ∀ z : Int, 0 ≤ z → z < IntKind.wrap .i64 (x + 1) → 0 ≤ cI (c.set x.toNat i) z ∧ cI (c.set x.toNat i) z ≤ IntKind.wrap .i64 (i + 1)
          rw [hx1, hw]
          intro z z1 z2
          rw [cx z z1]
          by_cases q : z = x
          · rw [if_pos q]; omega
          · rw [if_neg q]
            have := h11 z z1 (by omega); omega
        · intro t ht
          cases ht
          show i ≤ IntKind.wrap .i64 (i + 1); rw [hw]; omega
      have d1 : c130 c x = true := by
        unfold c130
        rw [decide_eq_true (show 0 ≤ x by omega), decide_eq_true (show x < ((130 : Nat) : Int) by omega), decide_eq_true (show x.toNat < c.length by omega)]; rfl
      exact ⟨_, T.path_eval (wayF0 p x y i c o n l e) (allSay_append hd (allSay_append hp ⟨hP, by rw [h2]; exact decide_eq_false (by omega), apC_is _ h8 (by omega), by rw [hxy, decide_eq_true (show x - y < 50 by omega)]; rfl, rfl, d1, decide_eq_true (by omega), trivial⟩)), nw, mu⟩
  have take : allSay [(fbK p i == 0, false), (fbK p i == 1, false), (fbK p i == 2, true)] → ∃ b, stepC okFb rdFb FFb muFb p ⟨x, y, i, c, lastV o, n, l⟩ b := by
    intro hp
    by_cases hn : n = 0
    · exact ⟨_, T.path_eval (wayF2 p x y i c o n l) (allSay_append hd (allSay_append hp ⟨by rw [hn]; rfl, by rw [decide_eq_false (show ¬ y < x by omega)]; rfl, trivial⟩)), same, mu⟩
    · have e0 : g2w l 0 = l[0] := getD0 (j := 0) rfl (by omega)
      have e1 : (g2w l 0).1 = y := by
        rw [e0, h10 0 (by omega)]; show y + ((0 : Nat) : Int) = y; omega
      have el : (l.drop (Int.toNat 1)).take (Int.toNat (n : Int) - Int.toNat 1) = l.drop 1 := by
        rw [show Int.toNat 1 = 1 from rfl]; exact List.take_of_length_le (by rw [List.length_drop]; omega)
      have nw : okFb p (fbA x (IntKind.wrap .i64 (y + 1)) (IntKind.wrap .i64 (i + 1)) c o (Int.toNat (n : Int) - Int.toNat 1) ((l.drop (Int.toNat 1)).take (Int.toNat (n : Int) - Int.toNat 1))) := by
        rw [el]
        refine ⟨h1, h2, ?_, ?_, same.2.2.2.2.1, same.2.2.2.2.2.1, h7, ?_, ?_, ?_, up, o, rfl, same.2.2.2.2.2.2.2.2.2.2.2.choose_spec.2 |> fun _ => fun t ht => by show t ≤ IntKind.wrap .i64 (i + 1); have := h13 t ht; rw [hw]; omega⟩
        · show 0 ≤ IntKind.wrap .i64 (y + 1); rw [hy1]; omega
        · show IntKind.wrap .i64 (y + 1) ≤ x; rw [hy1]; omega
        · show Int.toNat (n : Int) - Int.toNat 1 = (l.drop 1).length; rw [List.length_drop, show Int.toNat 1 = 1 from rfl]; omega
        · show ((l.drop 1).length : Int) = x - IntKind.wrap .i64 (y + 1); rw [List.length_drop, hy1]; omega
        · show ∀ j : Nat, (h : j < (l.drop 1).length) → (l.drop 1)[j] = (IntKind.wrap .i64 (y + 1) + j, cI c (IntKind.wrap .i64 (y + 1) + j))
          rw [hy1]
          intro j hj
          rw [List.length_drop] at hj
          rw [List.getElem_drop, h10 (1 + j) (by omega), show y + ((1 + j : Nat) : Int) = y + 1 + j by omega]
      have d0 : (decide ((0 : Int) ≤ 0) && (decide ((0 : Int) < (n : Int)) && decide (0 + Int.toNat 0 < l.length))) = true := by
        rw [decide_eq_true (show (0 : Int) < (n : Int) by omega), decide_eq_true (show 0 + Int.toNat 0 < l.length by show 0 + 0 < l.length; omega)]; rfl
      have d1 : (decide ((0 : Int) ≤ 1) && (decide ((1 : Int) ≤ (n : Int)) && (decide ((n : Int) ≤ (n : Int)) && decide (n ≤ l.length)))) = true := by
        rw [decide_eq_true (show (1 : Int) ≤ (n : Int) by omega), decide_eq_true (Int.le_refl (n : Int)), decide_eq_true (show n ≤ l.length by omega)]; rfl
      exact ⟨_, T.path_eval (wayF3 p x y i c o n l) (allSay_append hd (allSay_append hp ⟨by rw [beq_eq_false_iff_ne]; omega, d0, decide_eq_true (by show 0 + 0 < l.length; omega), d1, by rw [decide_eq_true (show y < x by omega), e1]; simp, trivial⟩)), nw, mu⟩
  have lat : allSay [(fbK p i == 0, false), (fbK p i == 1, false), (fbK p i == 2, false)] → ∃ b, stepC okFb rdFb FFb muFb p ⟨x, y, i, c, lastV o, n, l⟩ b := by
    intro hp
    have hT : 0 ≤ fbT p ∧ fbT p < 20 := by
      unfold fbT
      rw [modU (by omega) (by omega)]
      exact modU_range _ (by omega)
    obtain ⟨k0, k, k1, k2, k3, k4, k5, k6, k7⟩ := lt_ok (p := ⟨p.d, o, i, fbT p⟩) h8 (show l.length ≤ 1000 by omega)
    have k2 : (fbL p i o n l).l = l.drop k := k2
    have k3 : (fbL p i o n l).W = (l.take k).map (·.1) := k3
    have k4 : (fbL p i o n l).n = l.length - k := k4
    have k5 : (fbL p i o n l).j = k := k5
    have lateV : ∀ j : Nat, (hj : j < l.length) → late ⟨p.d, o, i, fbT p⟩ l[j] = decide (fbT p ≤ i - cI c (y + j)) := by
      intro j hj
      have := h11 (y + j) (by omega) (by omega)
      unfold late
      rw [h10 j hj]
      show wB (cI c (y + j)) i (fbT p) = decide (fbT p ≤ i - cI c (y + j))
      exact wB_small this.1 this.2 (by omega) hT.1 (by omega)
    have hWl : (fbL p i o n l).W.length = k := by rw [k3, List.length_map, List.length_take]; omega
    have o1 : okFa (fbQ p x y i c o n l) ⟨y, 0⟩ := by
      refine ⟨?_, h7, h3, ?_, by show x ≤ 120; omega, by show 0 ≤ i; omega, h6, ?_, ?_, Int.le_refl _, by show (0 : Int) ≤ ((fbL p i o n l).j : Int); omega, by show y = y + 0; omega, o, rfl⟩
      · show (fbL p i o n l).j = (fbL p i o n l).W.length; rw [k5, hWl]
      · show y + ((fbL p i o n l).j : Int) ≤ x; rw [k5]; omega
      · show ∀ j : Int, 0 ≤ j → j < ((fbL p i o n l).j : Int) → gI (fbL p i o n l).W j = y + j
        rw [k5, k3]
        intro j j1 j2
        obtain ⟨m, rfl⟩ : ∃ m : Nat, j = m := ⟨j.toNat, by omega⟩
        unfold gI
        rw [getD0 (j := m) rfl (by rw [List.length_map, List.length_take]; omega), List.getElem_map, List.getElem_take, h10 m (by omega)]
      · show ∀ z : Int, y ≤ z → z < y + ((fbL p i o n l).j : Int) → 0 ≤ cI c z ∧ cI c z ≤ 120 ∧ fbT p ≤ i - cI c z
        rw [k5]
        intro z z1 z2
        have a1 := h11 z (by omega) (by omega)
        have a2 := k6 (z - y).toNat (by omega) (by omega)
        rw [lateV _ (by omega), show y + ((z - y).toNat : Int) = z by omega] at a2
        have := of_decide_eq_true a2
        omega
    obtain ⟨q1, q2⟩ := endC stepFa o1
    obtain ⟨_, _, _, _, _, _, _, _, _, r1, r2, r3, _⟩ := q1
    have r2 : (fbF p x y i c o n l).j ≤ ((fbL p i o n l).j : Int) := r2
    have r3 : (fbF p x y i c o n l).y = y + (fbF p x y i c o n l).j := r3
    have q2 : ¬ (fbF p x y i c o n l).j < ((fbL p i o n l).j : Int) := of_decide_eq_false q2
    rw [k5] at r2 q2
    have hy : (fbF p x y i c o n l).y = y + k := by omega
    have d1 : c130 c (y + k) = true := by
      unfold c130
      rw [decide_eq_true (show 0 ≤ y + (k : Int) by omega), decide_eq_true (show y + (k : Int) < ((130 : Nat) : Int) by omega), decide_eq_true (show (y + (k : Int)).toNat < c.length by omega)]; rfl
    have uI : ∀ {g c : Bool}, c = true → fbU g c = true := by intro g c h; subst h; unfold fbU; cases g <;> rfl
    refine ⟨_, T.path_eval (wayF4 p x y i c o n l) (allSay_append hd (allSay_append hp ⟨rfl, k0, invC_is o1, uI (by rw [hy]; exact d1), uI (by rw [hy]; exact decide_eq_true (by omega)), ?_, trivial⟩)), ?_, mu⟩
    · rw [hy]
      by_cases q : y + (k : Int) < x
      · have a1 := h11 (y + k) (by omega) q
        have a2 := k7 (by omega)
        rw [lateV k (by omega)] at a2
        have := of_decide_eq_false a2
        rw [decide_eq_true q, wrap64_in (by omega) (by omega)]
        exact decide_eq_false this
      · rw [decide_eq_false q]; rfl
    · rw [hy, k2, k4]
      refine ⟨h1, h2, by show 0 ≤ y + (k : Int); omega, by show y + (k : Int) ≤ x; omega, same.2.2.2.2.1, same.2.2.2.2.2.1, h7, ?_, ?_, ?_, up, o, rfl, fun t ht => by show t ≤ IntKind.wrap .i64 (i + 1); have := h13 t ht; rw [hw]; omega⟩
      · show l.length - k = (l.drop k).length; rw [List.length_drop]
      · show ((l.drop k).length : Int) = x - (y + k); rw [List.length_drop]; omega
      · show ∀ j : Nat, (h : j < (l.drop k).length) → (l.drop k)[j] = (y + k + j, cI c (y + k + j))
        intro j hj
        rw [List.length_drop] at hj
        rw [List.getElem_drop, h10 (k + j) (by omega), show y + ((k + j : Nat) : Int) = y + k + j by omega]
  cases q0 : fbK p i == 0
  · cases q1 : fbK p i == 1
    · cases q2 : fbK p i == 2
      · exact lat ⟨q0, q1, q2, trivial⟩
      · exact take ⟨q0, q1, q2, trivial⟩
    · exact put false ⟨q0, q1, trivial⟩
  · exact put true ⟨q0, q0, trivial⟩
def uO : V → Option Int
  | .iface _ (.s (.int .i64 t)) => some t
  | _ => none
noncomputable def outFb (p : PFb) (a : AFb) : T (Ex × St) := .ite none (uO a.u).isSome (.ret (.exit 0, FFb p (fbA a.x a.y a.i a.c (some ((uO a.u).getD 0)) a.n a.l))) (.ret (.exit 0, FFb p (fbA a.x a.y a.i a.c none a.n a.l)))
theorem exFb (p : PFb) (a : AFb) (h : okFb p a) (hg : goFb p a = false) (r : Ex × St) (hr : (outFb p a).eval = some r) : r.1 ≠ .normal ∧ (rdFb p a).eval = some r := by
  obtain ⟨x, y, i, c, u, n, l⟩ := a
  obtain ⟨_, _, _, _, _, _, _, _, _, _, _, o, ho, _⟩ := h
  simp only at ho
  subst ho
  cases o with
  | none =>
    simp only [outFb, uO, lastV, Option.isSome_none, T.eval, cond_false, Option.some.injEq] at hr
    subst hr
    exact ⟨by simp, T.path_eval (wayFx p x y i c none n l) ⟨hg, trivial⟩⟩
  | some t =>
    simp only [outFb, uO, lastV, iv, Option.isSome_some, Option.getD_some, T.eval, cond_true, Option.some.injEq] at hr
    subst hr
    exact ⟨by simp, T.path_eval (wayFx p x y i c (some t) n l) ⟨hg, trivial⟩⟩
noncomputable def famFb : LSpec := famD [0,1,5,6,7,8,9] SFb 1000 1001 139 decFb okFb goFb rdFb FFb muFb outFb
theorem lpFb_gen {c : Code} (hl : LoopsOkS J7 (byReg [(rgFa, famFa)]) c) (hrun : ∀ p a, T.anon (roundN J7 (byReg [(rgFa, famFa)]) c [0,1,5,6,7,8,9] SFb 1000 1001 (mkSt [0,1,5,6,7,8,9] (keysR SFb) 1001 139 (vsFb p a) (bsFb p a))) = rdFb p a) : LoopOk J7 c famFb := famD_ok (vs := vsFb) (bs := bsFb) J7_ok mixed hl.ok decFb_ok (fun _ _ => rfl) hrun stepFb exFb
theorem lpFb_ok : LoopOk J7 lpFb famFb := lpFb_gen fbIn (fun _ _ => rfl)
noncomputable def runF (g : List Int) (age : Int) : T V := execS J7 (byReg [(rgFb, famFb)]) 3 [.orow 3 [.int .i64] g, iv age]
end Go.Proofs.Ytfnadebkobfemaa.Que
