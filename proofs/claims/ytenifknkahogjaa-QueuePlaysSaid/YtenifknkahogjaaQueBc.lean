/- Layer 20: QueuePlays, the document's own Late: its loop. -/
import Derived.Test.YtenifknkahogjaaQueBb
namespace Go.Proofs.Ytenifknkahogjaa.Que
open Go.Eng Go.RowKit
set_option linter.unusedVariables false
set_option linter.unusedSimpArgs false
def ageC (now age t : Int) : Bool := decide (IntKind.wrap .u64 (if 0 > age then 0 else age) ≤ IntKind.wrap .u64 (IntKind.wrap .u64 now - IntKind.wrap .u64 t))
def apC {α : Type} (j : Nat) (W : List α) (x : α) : Bool := true && (decide (j ≤ W.length) && decide (j + [x].length ≤ 1000000))
def nxT (a : AT) (x : Int × Int) : Bool → AT
  | true => ⟨List.take a.j a.W ++ [x.1], a.j + [x.1].length, a.X, a.k, IntKind.wrap .i64 (a.i + 1)⟩
  | false => ⟨a.W, a.j, List.take a.k a.X ++ [(x.1, x.2)], a.k + [(x.1, x.2)].length, IntKind.wrap .i64 (a.i + 1)⟩
theorem wayRT1 (p : PT) (a : AT) : T.path [true, true, true, false, true, true, true, true] (rdRT p a) = some ([(decide (a.i < (p.n : Int)), true), (idR p.l p.n a.i, true), (ldR p.l a.i, true), (decide (p.now < (g2w p.l a.i).2), false), (ageC p.now p.age (g2w p.l a.i).2, true), (idR p.l p.n a.i, true), (ldR p.l a.i, true), (apC a.j a.W (g2w p.l a.i).1, true)], (.normal, FRT p (nxT a (g2w p.l a.i) true))) := by
  obtain ⟨d, u, n, l, now, age⟩ := p
  cases u <;> kernel_rfl
theorem wayRT2 (p : PT) (a : AT) : T.path [true, true, true, false, false, true, true, true] (rdRT p a) = some ([(decide (a.i < (p.n : Int)), true), (idR p.l p.n a.i, true), (ldR p.l a.i, true), (decide (p.now < (g2w p.l a.i).2), false), (ageC p.now p.age (g2w p.l a.i).2, false), (idR p.l p.n a.i, true), (ldR p.l a.i, true), (apC a.k a.X ((g2w p.l a.i).1, (g2w p.l a.i).2), true)], (.normal, FRT p (nxT a (g2w p.l a.i) false))) := by
  obtain ⟨d, u, n, l, now, age⟩ := p
  cases u <;> kernel_rfl
theorem wayRT3 (p : PT) (a : AT) : T.path [true, true, true, true, true, true, true] (rdRT p a) = some ([(decide (a.i < (p.n : Int)), true), (idR p.l p.n a.i, true), (ldR p.l a.i, true), (decide (p.now < (g2w p.l a.i).2), true), (idR p.l p.n a.i, true), (ldR p.l a.i, true), (apC a.k a.X ((g2w p.l a.i).1, (g2w p.l a.i).2), true)], (.normal, FRT p (nxT a (g2w p.l a.i) false))) := by
  obtain ⟨d, u, n, l, now, age⟩ := p
  cases u <;> kernel_rfl
theorem wayRTx (p : PT) (a : AT) : T.path [false] (rdRT p a) = some ([(decide (a.i < (p.n : Int)), false)], (.exit 0, FRT p a)) := by
  obtain ⟨d, u, n, l, now, age⟩ := p
  cases u <;> kernel_rfl
def ltR (now age : Int) (x : Int × Int) : Bool := wB x.2 now age
def nlR (now age : Int) (x : Int × Int) : Bool := !(wB x.2 now age)
def okRT (p : PT) (a : AT) : Prop := p.n = p.l.length ∧ p.l.length ≤ 1000 ∧ a.j = a.W.length ∧ a.k = a.X.length ∧ 0 ≤ a.i ∧ a.i ≤ p.n ∧ a.W = ((p.l.take a.i.toNat).filter (ltR p.now p.age)).map (·.1) ∧ a.X = (p.l.take a.i.toNat).filter (nlR p.now p.age)
def goRT (p : PT) (a : AT) : Bool := decide (a.i < (p.n : Int))
def muRT (p : PT) (a : AT) : Nat := (p.n - a.i).toNat
theorem apC_is {α : Type} {j : Nat} {W : List α} (x : α) (h : j = W.length) (hl : W.length ≤ 1000) : apC j W x = true := by
  unfold apC
  rw [decide_eq_true (show j ≤ W.length by omega), decide_eq_true (show j + [x].length ≤ 1000000 by simp; omega)]; rfl
theorem wB_of {now age t : Int} (h : decide (now < t) = false) : wB t now age = ageC now age t := by
  have := of_decide_eq_false h
  unfold wB
  rw [decide_eq_true (show t ≤ now by omega)]; rfl
theorem wB_no {now age t : Int} (h : decide (now < t) = true) : wB t now age = false := by
  have := of_decide_eq_true h
  unfold wB
  rw [decide_eq_false (show ¬ t ≤ now by omega)]; rfl
theorem nxT_ok {p : PT} {a : AT} (h : okRT p a) (hi : a.i < (p.n : Int)) (e : Bool) (he : wB (g2w p.l a.i).2 p.now p.age = e) : okRT p (nxT a (g2w p.l a.i) e) ∧ muRT p (nxT a (g2w p.l a.i) e) < muRT p a := by
  obtain ⟨h1, h2, h3, h4, h5, h6, h7, h8⟩ := id h
  have hj : a.i.toNat < p.l.length := by omega
  have hw : IntKind.wrap .i64 (a.i + 1) = a.i + 1 := wrap64_in (by omega) (by omega)
  have hg : g2w p.l a.i = p.l[a.i.toNat] := g2w_at rfl hj
  have hmu : (p.n - IntKind.wrap .i64 (a.i + 1)).toNat < (p.n - a.i).toNat := by rw [hw]; omega
  rw [hg] at he ⊢
  cases e
  · refine ⟨⟨h1, h2, h3, ?_, ?_, ?_, ?_, ?_⟩, hmu⟩
    · show a.k + 1 = (List.take a.k a.X ++ [(p.l[a.i.toNat].1, p.l[a.i.toNat].2)]).length
      rw [h4, List.take_length]; simp
    · show 0 ≤ IntKind.wrap .i64 (a.i + 1); rw [hw]; omega
    · show IntKind.wrap .i64 (a.i + 1) ≤ p.n; rw [hw]; omega
    · show a.W = ((p.l.take (IntKind.wrap .i64 (a.i + 1)).toNat).filter (ltR p.now p.age)).map (·.1)
      rw [hw, take_next h5 hj, List.filter_append, show [p.l[a.i.toNat]].filter (ltR p.now p.age) = [] by simp [ltR, he], List.append_nil]; exact h7
    · show List.take a.k a.X ++ [(p.l[a.i.toNat].1, p.l[a.i.toNat].2)] = (p.l.take (IntKind.wrap .i64 (a.i + 1)).toNat).filter (nlR p.now p.age)
      rw [hw, take_next h5 hj, List.filter_append, show [p.l[a.i.toNat]].filter (nlR p.now p.age) = [p.l[a.i.toNat]] by simp [nlR, he], h4, List.take_length, ← h8]
  · refine ⟨⟨h1, h2, ?_, h4, ?_, ?_, ?_, ?_⟩, hmu⟩
    · show a.j + 1 = (List.take a.j a.W ++ [p.l[a.i.toNat].1]).length
      rw [h3, List.take_length]; simp
    · show 0 ≤ IntKind.wrap .i64 (a.i + 1); rw [hw]; omega
    · show IntKind.wrap .i64 (a.i + 1) ≤ p.n; rw [hw]; omega
    · show List.take a.j a.W ++ [p.l[a.i.toNat].1] = ((p.l.take (IntKind.wrap .i64 (a.i + 1)).toNat).filter (ltR p.now p.age)).map (·.1)
      rw [hw, take_next h5 hj, List.filter_append, show [p.l[a.i.toNat]].filter (ltR p.now p.age) = [p.l[a.i.toNat]] by simp [ltR, he], h3, List.take_length, List.map_append, ← h7]; rfl
    · show a.X = (p.l.take (IntKind.wrap .i64 (a.i + 1)).toNat).filter (nlR p.now p.age)
      rw [hw, take_next h5 hj, List.filter_append, show [p.l[a.i.toNat]].filter (nlR p.now p.age) = [] by simp [nlR, he], List.append_nil]; exact h8
theorem stepRT (p : PT) (a : AT) (h : okRT p a) (hg : goRT p a = true) : ∃ b, stepC okRT rdRT FRT muRT p a b := by
  obtain ⟨h1, h2, h3, h4, h5, h6, h7, h8⟩ := id h
  have hi : a.i < (p.n : Int) := of_decide_eq_true hg
  obtain ⟨x1, x2⟩ := idR_is (g := p.l) (k := p.n) (i := a.i) h1 h5 (by omega)
  have lW : a.W.length ≤ 1000 := by
    rw [h7, List.length_map]
    exact Nat.le_trans (List.length_filter_le _ _) (by rw [List.length_take]; omega)
  have lX : a.X.length ≤ 1000 := by
    rw [h8]
    exact Nat.le_trans (List.length_filter_le _ _) (by rw [List.length_take]; omega)
  cases q : decide (p.now < (g2w p.l a.i).2)
  · cases r : ageC p.now p.age (g2w p.l a.i).2
    · have o := nxT_ok h hi false ((wB_of q).trans r)
      exact ⟨_, T.path_eval (wayRT2 p a) ⟨hg, x1, x2, q, r, x1, x2, apC_is _ h4 lX, trivial⟩, o.1, o.2⟩
    · have o := nxT_ok h hi true ((wB_of q).trans r)
      exact ⟨_, T.path_eval (wayRT1 p a) ⟨hg, x1, x2, q, r, x1, x2, apC_is _ h3 lW, trivial⟩, o.1, o.2⟩
  · have o := nxT_ok h hi false (wB_no q)
    exact ⟨_, T.path_eval (wayRT3 p a) ⟨hg, x1, x2, q, x1, x2, apC_is _ h4 lX, trivial⟩, o.1, o.2⟩
theorem exRT (p : PT) (a : AT) (h : okRT p a) (hg : goRT p a = false) : (rdRT p a).eval = some (.exit 0, FRT p a) := T.path_eval (wayRTx p a) ⟨hg, trivial⟩
def decRT : List V → List Blk → Option (PT × AT)
  | [.ptr 0 0, .s (.int .i64 now), .s (.int .i64 age), .sub 1000 1 0 j, .sub 1001 2 0 k, .s (.int .i64 i)], [.cells t0 [.s (.int .i64 d), .sub 1 2 0 n, .s (.int .i64 t), .s (.bool true)], .lst true t1 [.int .i64, .int .i64] l, .lst true t2 [.int .i64] W, .lst true t3 [.int .i64, .int .i64] X] =>
    if t0 = 108 then if t1 = 110 then if t2 = 3 then if t3 = 110 then some (⟨d, some t, n, l, now, age⟩, ⟨W, j, X, k, i⟩) else none else none else none else none
  | [.ptr 0 0, .s (.int .i64 now), .s (.int .i64 age), .sub 1000 1 0 j, .sub 1001 2 0 k, .s (.int .i64 i)], [.cells t0 [.s (.int .i64 d), .sub 1 2 0 n, .s (.int .i64 t), .s (.bool false)], .lst true t1 [.int .i64, .int .i64] l, .lst true t2 [.int .i64] W, .lst true t3 [.int .i64, .int .i64] X] =>
    if t = 0 then if t0 = 108 then if t1 = 110 then if t2 = 3 then if t3 = 110 then some (⟨d, none, n, l, now, age⟩, ⟨W, j, X, k, i⟩) else none else none else none else none else none
  | _, _ => none
theorem decRT_ok (l : List V) (b : List Blk) (d : PT × AT) (h : decRT l b = some d) : l = vsRT d.1 d.2 ∧ b = bsRT d.1 d.2 := by
  unfold decRT at h
  split at h
  · obtain ⟨e0, h⟩ := ite_some' h
    obtain ⟨e1, h⟩ := ite_some' h
    obtain ⟨e2, h⟩ := ite_some' h
    obtain ⟨e3, h⟩ := ite_some' h
    subst e0 e1 e2 e3
    cases h
    exact ⟨rfl, rfl⟩
  · obtain ⟨e, h⟩ := ite_some' h
    obtain ⟨e0, h⟩ := ite_some' h
    obtain ⟨e1, h⟩ := ite_some' h
    obtain ⟨e2, h⟩ := ite_some' h
    obtain ⟨e3, h⟩ := ite_some' h
    subst e e0 e1 e2 e3
    cases h
    exact ⟨rfl, rfl⟩
  · cases h
noncomputable def famRT : LSpec := famC [0,1,2,7,8,9] SRT 1000 1002 56 decRT okRT goRT rdRT FRT muRT (.exit 0)
theorem lrL_ok : LoopOk J5 lrL famRT := famC_ok (vs := vsRT) (bs := bsRT) J5_ok mixed (noLoops_ok _) decRT_ok (by simp) (fun _ _ => rfl) (fun _ _ => rfl) stepRT exRT
end Go.Proofs.Ytenifknkahogjaa.Que
