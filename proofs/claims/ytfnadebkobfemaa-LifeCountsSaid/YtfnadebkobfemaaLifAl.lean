/- Layer 21: LifeCounts: its inner loops' rounds; the outer loop. -/
import Derived.Test.YtfnadebkobfemaaLifAk
import Derived.Test.YtfnadebkobfemaaLifN
namespace Go.Proofs.Ytfnadebkobfemaa.Lif
open Go.Eng Go.RowKit
set_option linter.unusedVariables false
set_option linter.unusedSimpArgs false
/-! ### requests that come -/
def caX (p : PCa) (a : ACa) : Int := IntKind.wrap .i64 (Int.tmod (IntKind.wrap .u64 (IntKind.wrap .u64 p.k + IntKind.wrap .u64 (IntKind.wrap .u64 a.j * 7))) (IntKind.wrap .u64 (p.q : Int)))
def caG (p : PCa) (a : ACa) : Bool := bif decide (a.j < 6) then decide (0 < (p.q : Int)) else false
def caE (p : PCa) (a : ACa) : Int × List R4 := entP (gI p.r (caX p a)) a.l
theorem wayCa (p : PCa) (a : ACa) : T.path [true, false, true, true, true, false] (rdCa p a) = some ([(caG p a, true), (IntKind.wrap .u64 (p.q : Int) == 0, false), (idR p.r p.q (caX p a), true), (ldR p.r (caX p a), true), (okN a.n a.l, true), ((caE p a).1 != 0, false)], (.normal, FCa p ⟨IntKind.wrap .i64 (a.b + 1), a.n, (caE p a).2, IntKind.wrap .i64 (a.j + 1)⟩)) := by kernel_rfl
theorem wayCax (p : PCa) (a : ACa) : T.path [false] (rdCa p a) = some ([(caG p a, false)], (.exit 2, FCa p a)) := by kernel_rfl
def okCa (p : PCa) (a : ACa) : Prop := p.q = p.r.length ∧ p.q ≤ 100000 ∧ 0 ≤ p.b0 ∧ p.b0 ≤ 1000 ∧ 0 ≤ a.j ∧ a.j ≤ 6 ∧ a.n = a.l.length ∧ a.l.length ≤ 10000 ∧ a.l.length = p.l0.length ∧ p.r = rdy a.l ∧ a.b ≤ p.b0 + a.j ∧ LInv a.l p.m a.b
def goCa (p : PCa) (a : ACa) : Bool := caG p a
def muCa (p : PCa) (a : ACa) : Nat := (6 - a.j).toNat
theorem stepCa (p : PCa) (a : ACa) (h : okCa p a) (hg : goCa p a = true) : ∃ b, stepC okCa rdCa FCa muCa p a b := by
  obtain ⟨h1, h2, h3, h4, h5, h6, h7, h8, h9, h10, h11, h12⟩ := id h
  have hg0 : (decide (a.j < 6) && decide (0 < (p.q : Int))) = true := by rw [← cond_and]; exact hg
  simp only [Bool.and_eq_true, decide_eq_true_eq] at hg0
  obtain ⟨hj, hq⟩ := hg0
  have hw : IntKind.wrap .i64 (a.j + 1) = a.j + 1 := wrap64_in (by omega) (by omega)
  have hu : IntKind.wrap .u64 (p.q : Int) = p.q := by rw [wrapu64]; omega
  have hx : 0 ≤ caX p a ∧ caX p a < p.q := by
    unfold caX
    rw [hu]
    have e : ∀ z : Int, IntKind.wrap .i64 (Int.tmod (IntKind.wrap .u64 z) (p.q : Int)) = (z % 18446744073709551616) % (p.q : Int) := fun z => modU (by omega) (by omega)
    rw [e]; exact modU_range _ (by omega)
  obtain ⟨x1, x2⟩ := idR_is (g := p.r) (k := p.q) (i := caX p a) h1 hx.1 hx.2
  have hmem : gI p.r (caX p a) ∈ rdy a.l := by
    rw [← h10]
    unfold gI
    rw [getD0 (j := (caX p a).toNat) rfl (by omega)]
    exact List.getElem_mem _
  have hb0 := sumB_nn (l := a.l) fun p hp => (h12.bz p hp).1
  rw [h12.sm] at hb0
  obtain ⟨e1, e2, e3, e4⟩ := h12.ent (by omega) hmem
  have hwb : IntKind.wrap .i64 (a.b + 1) = a.b + 1 := wrap64_in (by omega) (by omega)
  refine ⟨_, T.path_eval (wayCa p a) ⟨hg, by rw [hu, beq_eq_false_iff_ne]; omega, x1, x2, decide_eq_true ⟨h7, by omega⟩, by unfold caE; rw [e1]; rfl, trivial⟩, ⟨h1, h2, h3, h4, ?_, ?_, ?_, ?_, ?_, ?_, ?_, ?_⟩, ?_⟩
  · show 0 ≤ IntKind.wrap .i64 (a.j + 1); rw [hw]; omega
  · show IntKind.wrap .i64 (a.j + 1) ≤ 6; rw [hw]; omega
  · show a.n = (caE p a).2.length; unfold caE; rw [e4]; exact h7
  · show (caE p a).2.length ≤ 10000; unfold caE; rw [e4]; exact h8
  · show (caE p a).2.length = p.l0.length; unfold caE; rw [e4]; exact h9
  · show p.r = rdy (caE p a).2; unfold caE; rw [e3]; exact h10
  · show IntKind.wrap .i64 (a.b + 1) ≤ p.b0 + IntKind.wrap .i64 (a.j + 1); rw [hw, hwb]; omega
  · show LInv (caE p a).2 p.m (IntKind.wrap .i64 (a.b + 1)); rw [hwb]; exact e2
  · show (6 - IntKind.wrap .i64 (a.j + 1)).toNat < (6 - a.j).toNat
    rw [hw]; omega
theorem exCa (p : PCa) (a : ACa) (h : okCa p a) (hg : goCa p a = false) : (rdCa p a).eval = some (.exit 2, FCa p a) := T.path_eval (wayCax p a) ⟨hg, trivial⟩
noncomputable def famCa : LSpec := famC [0,1,5,6,7,9,10,11] SCa 3000 3002 171 decCa okCa goCa rdCa FCa muCa (.exit 2)
theorem lpCa_ok : LoopOk JL lpCa famCa := famC_ok (vs := vsCa) (bs := bsCa) JL_ok mixed (noLoops_ok _) decCa_ok (by simp) (fun _ _ => rfl) (fun _ _ => rfl) stepCa exCa
/-! ### the counts -/
def lC (g : Bool) (c : Bool) : Bool := bif g == false && true then c else true
def lD (g g' : Bool) (c : Bool) : Bool := bif g == false && (g' == true && true) then c else true
theorem lC_is {g c : Bool} (h : c = true) : lC g c = true := by subst h; unfold lC; cases g <;> rfl
theorem lD_is {g g' c : Bool} (h : c = true) : lD g g' c = true := by subst h; unfold lD; cases g <;> cases g' <;> rfl
theorem wayCb (p : PCb) (a : ACb) : T.path [true, true, true, true, true, true, true, false, true, true, true, true] (rdCb p a) = some ([(decide (a.j < (p.q : Int)), true), (idR p.p p.q a.j, true), (ldR p.p a.j, true), (lC (decide ((g4 p.p a.j).1 ≤ a.t)) (idR p.p p.q a.j), true), (lC (decide ((g4 p.p a.j).1 ≤ a.t)) (ldR p.p a.j), true),
    (lD (decide ((g4 p.p a.j).1 ≤ a.t)) ((g4 p.p a.j).2.1 == 3) (idR p.p p.q a.j), true), (lD (decide ((g4 p.p a.j).1 ≤ a.t)) ((g4 p.p a.j).2.1 == 3) (ldR p.p a.j), true), (bif decide ((g4 p.p a.j).1 ≤ a.t) then true else bif (g4 p.p a.j).2.1 == 3 then (g4 p.p a.j).2.2.1 == 0 else false, false),
    (idR p.p p.q a.j, true), (ldR p.p a.j, true), (idR p.p p.q a.j, true), (ldR p.p a.j, true)], (.normal, FCb p ⟨IntKind.wrap .i64 (a.s + (g4 p.p a.j).2.2.1), (g4 p.p a.j).1, IntKind.wrap .i64 (a.j + 1)⟩)) := by kernel_rfl
theorem wayCbx (p : PCb) (a : ACb) : T.path [false] (rdCb p a) = some ([(decide (a.j < (p.q : Int)), false)], (.exit 4, FCb p a)) := by kernel_rfl
def okCb (p : PCb) (a : ACb) : Prop := p.q = p.p.length ∧ p.p.length ≤ 10000 ∧ LInv p.p p.m p.b ∧ p.b ≤ 100000 ∧ 0 ≤ a.j ∧ a.j ≤ p.q ∧ a.s = sumB (p.p.take a.j.toNat) ∧ a.t < ((p.p[a.j.toNat]?).map (·.1)).getD (a.t + 1)
def goCb (p : PCb) (a : ACb) : Bool := decide (a.j < (p.q : Int))
def muCb (p : PCb) (a : ACb) : Nat := (p.q - a.j).toNat
theorem sumB_part {l : List R4} (h : ∀ p ∈ l, 0 ≤ p.2.2.1) (k : Nat) : 0 ≤ sumB (l.take k) ∧ sumB (l.take k) ≤ sumB l := by
  have e : sumB l = sumB (l.take k) + sumB (l.drop k) := by rw [← sumB_append, List.take_append_drop]
  have h1 := sumB_nn (l := l.take k) fun p hp => h p (List.mem_of_mem_take hp)
  have h2 := sumB_nn (l := l.drop k) fun p hp => h p (List.mem_of_mem_drop hp)
  omega
theorem stepCb (p : PCb) (a : ACb) (h : okCb p a) (hg : goCb p a = true) : ∃ b, stepC okCb rdCb FCb muCb p a b := by
  obtain ⟨h1, h2, h3, h4, h5, h6, h7, h8⟩ := id h
  have hi : a.j < p.q := of_decide_eq_true hg
  have hw : IntKind.wrap .i64 (a.j + 1) = a.j + 1 := wrap64_in (by omega) (by omega)
  have hj : a.j.toNat < p.p.length := by omega
  obtain ⟨x1, x2⟩ := idR_is (g := p.p) (k := p.q) (i := a.j) h1 h5 hi
  have hgj := g4_at hj
  have hb := h3.bz _ (List.getElem_mem hj)
  rw [List.getElem?_eq_getElem hj] at h8
  have h8' : a.t < p.p[a.j.toNat].1 := h8
  have nn : ∀ x ∈ p.p, 0 ≤ x.2.2.1 := fun x hx => (h3.bz x hx).1
  have s1 := sumB_part nn a.j.toNat
  have s2 := sumB_part nn (a.j.toNat + 1)
  have hs : sumB (p.p.take (a.j.toNat + 1)) = sumB (p.p.take a.j.toNat) + p.p[a.j.toNat].2.2.1 := by
    rw [List.take_add_one, List.getElem?_eq_getElem hj, sumB_append]
    show sumB (p.p.take a.j.toNat) + sumB [p.p[a.j.toNat]] = _
    rw [show sumB [p.p[a.j.toNat]] = p.p[a.j.toNat].2.2.1 by unfold sumB; simp]
  rw [h3.sm] at s1 s2
  have hws : IntKind.wrap .i64 (a.s + (g4 p.p a.j).2.2.1) = sumB (p.p.take (a.j.toNat + 1)) := by
    rw [hgj, h7, hs]; exact wrap64_in (by omega) (by omega)
  refine ⟨_, T.path_eval (wayCb p a) ⟨hg, x1, x2, lC_is x1, lC_is x2, lD_is x1, lD_is x2, ?_, x1, x2, x1, x2, trivial⟩, ⟨h1, h2, h3, h4, ?_, ?_, ?_, ?_⟩, ?_⟩
  · show (bif decide ((g4 p.p a.j).1 ≤ a.t) then true else bif (g4 p.p a.j).2.1 == 3 then (g4 p.p a.j).2.2.1 == 0 else false) = false
    rw [hgj, decide_eq_false (show ¬ p.p[a.j.toNat].1 ≤ a.t by omega), cond_false, cond_and]
    cases q : p.p[a.j.toNat].2.1 == 3
    · rfl
    · have := hb.2 (by simpa using q)
      rw [show (p.p[a.j.toNat].2.2.1 == 0) = false by rw [beq_eq_false_iff_ne]; omega]; rfl
  · show 0 ≤ IntKind.wrap .i64 (a.j + 1); rw [hw]; omega
  · show IntKind.wrap .i64 (a.j + 1) ≤ p.q; rw [hw]; omega
  · show IntKind.wrap .i64 (a.s + (g4 p.p a.j).2.2.1) = sumB (p.p.take (IntKind.wrap .i64 (a.j + 1)).toNat)
    rw [hw, hws, show (a.j + 1).toNat = a.j.toNat + 1 by omega]
  · show (g4 p.p a.j).1 < ((p.p[(IntKind.wrap .i64 (a.j + 1)).toNat]?).map (·.1)).getD ((g4 p.p a.j).1 + 1)
    rw [hw, show (a.j + 1).toNat = a.j.toNat + 1 by omega, hgj]
    by_cases hn : a.j.toNat + 1 < p.p.length
    · rw [List.getElem?_eq_getElem hn]
      have hp := List.pairwise_iff_getElem.1 h3.srt a.j.toNat (a.j.toNat + 1) (by unfold idsP; rw [List.length_map]; omega) (by unfold idsP; rw [List.length_map]; exact hn) (by omega)
      unfold idsP at hp
      rw [List.getElem_map, List.getElem_map] at hp
      exact hp
    · rw [List.getElem?_eq_none (by omega)]
      show p.p[a.j.toNat].1 < p.p[a.j.toNat].1 + 1
      omega
  · show (p.q - IntKind.wrap .i64 (a.j + 1)).toNat < (p.q - a.j).toNat
    rw [hw]; omega
theorem exCb (p : PCb) (a : ACb) (h : okCb p a) (hg : goCb p a = false) : (rdCb p a).eval = some (.exit 4, FCb p a) := T.path_eval (wayCbx p a) ⟨hg, trivial⟩
noncomputable def famCb : LSpec := famC [0,1,5,6,7,12,14,15,16] SCb 4000 4002 171 decCb okCb goCb rdCb FCb muCb (.exit 4)
theorem lpCb_ok : LoopOk JL lpCb famCb := famC_ok (vs := vsCb) (bs := bsCb) JL_ok mixed (noLoops_ok _) decCb_ok (by simp) (fun _ _ => rfl) (fun _ _ => rfl) stepCb exCb
theorem lps_in2 {C : Cfg} {c d d' : Code} {n n' : Nat} {sp sp' : LSpec} (e : loopsIn c = [d, d']) (hr : firstReg d = some n) (hr' : firstReg d' = some n') (hn : (n == n') = false) (h : LoopOk C d sp) (h' : LoopOk C d' sp') : LoopsOkS C (byReg [(n, sp), (n', sp')]) c := by
  refine ⟨loopsOk_of c ?_⟩
  rw [e]
  intro a ha
  rcases List.mem_cons.1 ha with q | ha
  · rw [q]; exact byReg_mem hr (by simp [findL]) h
  rcases List.mem_cons.1 ha with q | ha
  · rw [q]; exact byReg_mem hr' (by simp [findL, hn]) h'
  · cases ha
noncomputable def lpCc : Code := lpC0
structure PCc where (g : List Int) (kg : Nat) (h : List Int) (kh : Nat)
structure ACc where (b : Int) (i : Int) (m : Int) (n : Nat) (l : List R4)
abbrev SCc : List (Nat × Src) := [(0, .same), (1, .same), (2, .same), (2000, .cell 2 1)]
def vsCc (p : PCc) (a : ACc) : List V := [.sub 0 1 0 p.kg, .sub 1 1 0 p.kh, .ptr 2 0, iv a.b, iv a.i]
def bsCc (p : PCc) (a : ACc) : List Blk := [.lst false 3 [.int .i64] p.g, .lst false 3 [.int .i64] p.h, .cells 108 [iv a.m, .sub 2000 4 0 a.n], .lst true 39 [.int .i64, .int .i64, .int .i64, .int .i64] a.l]
noncomputable def FCc (p : PCc) (a : ACc) : St := mkSt [0,1,5,6,7] (keysR SCc) 2001 171 (vsCc p a) (bsCc p a)
noncomputable def rdCc (p : PCc) (a : ACc) : T (Ex × St) := T.anon (roundN JL (byReg [(rgCa, famCa), (rgCb, famCb)]) lpCc [0,1,5,6,7] SCc 2000 2001 (mkSt [0,1,5,6,7] (keysR SCc) 2001 171 (vsCc p a) (bsCc p a)))
def decCc : List V → List Blk → Option (PCc × ACc)
  | [.sub 0 1 0 kg, .sub 1 1 0 kh, .ptr 2 0, .s (.int .i64 b), .s (.int .i64 i)], [.lst false tt0 [.int .i64] g, .lst false tt1 [.int .i64] h, .cells tt2 [.s (.int .i64 m), .sub 2000 4 0 n], .lst true tt3 [.int .i64, .int .i64, .int .i64, .int .i64] l] =>
    if tt0 = 3 then if tt1 = 3 then if tt2 = 108 then if tt3 = 39 then some (⟨g, kg, h, kh⟩, ⟨b, i, m, n, l⟩) else none else none else none else none
  | _, _ => none
theorem decCc_ok (l : List V) (b : List Blk) (d : PCc × ACc) (h : decCc l b = some d) : l = vsCc d.1 d.2 ∧ b = bsCc d.1 d.2 := by
  unfold decCc at h
  split at h
  · obtain ⟨e0, h⟩ := ite_some0 h
    obtain ⟨e1, h⟩ := ite_some0 h
    obtain ⟨e2, h⟩ := ite_some0 h
    obtain ⟨e3, h⟩ := ite_some0 h
    subst e0 e1 e2 e3
    cases h
    exact ⟨rfl, rfl⟩
  · cases h
noncomputable def rgCc : Nat := (firstReg lpCc).getD 0
theorem rgCc_is : firstReg lpCc = some rgCc := by kernel_rfl
theorem ccLoops : loopsIn lpCc = [lpCa, lpCb] := by kernel_rfl
theorem ccIn : LoopsOkS JL (byReg [(rgCa, famCa), (rgCb, famCb)]) lpCc := lps_in2 ccLoops rgCa_is rgCb_is (by kernel_rfl) lpCa_ok lpCb_ok
end Go.Proofs.Ytfnadebkobfemaa.Lif
