/- Layer 2: load.Sum; the loop of LoadSums. -/
import Derived.Test.YtacdadifjgppbaaLodI
namespace Go.Proofs.Ytacdadifjgppbaa.Lod
open Go.Eng Go.RowKit Go.Flt
set_option linter.unusedVariables false
set_option linter.unusedSimpArgs false
def idC (g : List (Nat × Nat)) (k : Nat) (i : Int) : Bool := decide (0 ≤ i) && (decide (i < (k : Int)) && decide (0 + i.toNat < g.length))
def ldC (g : List (Nat × Nat)) (i : Int) : Bool := decide (0 + i.toNat < g.length)
theorem waySm (p : PSm) (a : ASm) : T.path [true, true, true, true, true] (rdSm p a) = some ([(decide (a.i < p.c), true), (idC p.g p.k a.i, true), (ldC p.g a.i, true), (isW (g1 p.g a.i).1, true), (isW (g1 p.g a.i).2, true)],
  (.normal, FSm p ⟨wi (IntKind.wrap .i64 (a.x + valW (g1 p.g a.i).1)), wi (IntKind.wrap .i64 (a.y + valW (g1 p.g a.i).2)), IntKind.wrap .i64 (a.i + 1)⟩)) := by kernel_rfl
theorem waySmx (p : PSm) (a : ASm) : T.path [false] (rdSm p a) = some ([(decide (a.i < p.c), false)], (.exit 0, FSm p a)) := by kernel_rfl
def bS : List (Nat × Nat) → Int
  | [] => 0
  | z :: r => valW z.1 + bS r
def wS : List (Nat × Nat) → Int
  | [] => 0
  | z :: r => valW z.2 + wS r
theorem bS_append : ∀ l r : List (Nat × Nat), bS (l ++ r) = bS l + bS r
  | [], r => by simp [bS]
  | z :: l, r => by simp only [List.cons_append, bS]; rw [bS_append l r]; omega
theorem wS_append : ∀ l r : List (Nat × Nat), wS (l ++ r) = wS l + wS r
  | [], r => by simp [wS]
  | z :: l, r => by simp only [List.cons_append, wS]; rw [wS_append l r]; omega
def okZ (z : Nat × Nat) : Prop := isW z.1 = true ∧ isW z.2 = true ∧ 0 ≤ valW z.1 ∧ valW z.1 ≤ 1000000 ∧ 0 ≤ valW z.2 ∧ valW z.2 ≤ 1000000
theorem sums_in : ∀ l : List (Nat × Nat), (∀ z ∈ l, okZ z) → (0 ≤ bS l ∧ bS l ≤ 1000000 * l.length) ∧ (0 ≤ wS l ∧ wS l ≤ 1000000 * l.length)
  | [], _ => by simp [bS, wS]
  | z :: l, h => by
    have h1 := sums_in l fun x hx => h x (List.mem_cons_of_mem _ hx)
    obtain ⟨-, -, z1, z2, z3, z4⟩ := h z List.mem_cons_self
    simp only [bS, wS, List.length_cons]
    omega
def okSm (p : PSm) (a : ASm) : Prop := p.k = p.g.length ∧ p.c = p.g.length ∧ p.g.length ≤ 1000 ∧ (∀ z ∈ p.g, okZ z) ∧ 0 ≤ a.i ∧ a.i ≤ p.c ∧ a.x = bS (p.g.take a.i.toNat) ∧ a.y = wS (p.g.take a.i.toNat)
def goSm (p : PSm) (a : ASm) : Bool := decide (a.i < p.c)
def muSm (p : PSm) (a : ASm) : Nat := (p.c - a.i).toNat
theorem g1_get {l : List (Nat × Nat)} {i : Int} (h : i.toNat < l.length) : g1 l i = l[i.toNat] := by
  unfold g1
  rw [List.getD_eq_getElem?_getD, Nat.zero_add, List.getElem?_eq_getElem h]; rfl
theorem stepSm (p : PSm) (a : ASm) (h : okSm p a) (hg : goSm p a = true) : ∃ b, stepC okSm rdSm FSm muSm p a b := by
  obtain ⟨h1, h2, h3, h4, h5, h6, h7, h8⟩ := id h
  have hi : a.i < p.c := of_decide_eq_true hg
  have hl : a.i.toNat < p.g.length := by omega
  have hw : IntKind.wrap .i64 (a.i + 1) = a.i + 1 := wrap64_in (by omega) (by omega)
  have hz := h4 _ (List.getElem_mem hl)
  rw [← g1_get hl] at hz
  obtain ⟨z1, z2, z3, z4, z5, z6⟩ := hz
  have e1 : idC p.g p.k a.i = true := by
    unfold idC
    rw [decide_eq_true h5, decide_eq_true (show a.i < (p.k : Int) by omega), decide_eq_true (show 0 + a.i.toNat < p.g.length by omega)]; rfl
  have e2 : ldC p.g a.i = true := decide_eq_true (by omega)
  have hs := sums_in (p.g.take a.i.toNat) fun z hz => h4 z (List.mem_of_mem_take hz)
  have hlen : (p.g.take a.i.toNat).length ≤ 1000 := by rw [List.length_take]; omega
  have ht : p.g.take (a.i + 1).toNat = p.g.take a.i.toNat ++ [g1 p.g a.i] := by
    rw [show (a.i + 1).toNat = a.i.toNat + 1 by omega, List.take_add_one, List.getElem?_eq_getElem hl, g1_get hl]; rfl
  have x1 : wi (IntKind.wrap .i64 (a.x + valW (g1 p.g a.i).1)) = a.x + valW (g1 p.g a.i).1 := by rw [wrap64_in (by omega) (by omega), wi_in (by omega) (by omega)]
  have y1 : wi (IntKind.wrap .i64 (a.y + valW (g1 p.g a.i).2)) = a.y + valW (g1 p.g a.i).2 := by rw [wrap64_in (by omega) (by omega), wi_in (by omega) (by omega)]
  refine ⟨_, T.path_eval (waySm p a) ⟨hg, e1, e2, z1, z2, trivial⟩, ⟨h1, h2, h3, h4, ?_, ?_, ?_, ?_⟩, ?_⟩
  · show 0 ≤ IntKind.wrap .i64 (a.i + 1); rw [hw]; omega
  · show IntKind.wrap .i64 (a.i + 1) ≤ p.c; rw [hw]; omega
  · show wi (IntKind.wrap .i64 (a.x + valW (g1 p.g a.i).1)) = bS (p.g.take (IntKind.wrap .i64 (a.i + 1)).toNat)
    rw [x1, hw, ht, bS_append, h7]; simp [bS]
  · show wi (IntKind.wrap .i64 (a.y + valW (g1 p.g a.i).2)) = wS (p.g.take (IntKind.wrap .i64 (a.i + 1)).toNat)
    rw [y1, hw, ht, wS_append, h8]; simp [wS]
  · show (p.c - IntKind.wrap .i64 (a.i + 1)).toNat < (p.c - a.i).toNat
    rw [hw]; omega
theorem exSm (p : PSm) (a : ASm) (h : okSm p a) (hg : goSm p a = false) : (rdSm p a).eval = some (.exit 0, FSm p a) := T.path_eval (waySmx p a) ⟨hg, trivial⟩
def decSm : List V → List Blk → Option (PSm × ASm)
  | [.s (.int .i64 x), .s (.int .i64 y), .sub 0 1 0 k, .s (.int .i64 c), .s (.int .i64 i)], [.lst false t [.cx .f64] g] => if t = 23 then some (⟨g, k, c⟩, ⟨x, y, i⟩) else none
  | _, _ => none
theorem decSm_ok (l : List V) (b : List Blk) (d : PSm × ASm) (h : decSm l b = some d) : l = vsSm d.1 d.2 ∧ b = bsSm d.1 := by
  unfold decSm at h
  split at h
  · split at h
    · rename_i ht
      subst ht
      cases h
      exact ⟨rfl, rfl⟩
    · cases h
  · cases h
noncomputable def famSm : LSpec := famC [3,4,7,8,9] S1 1000 1000 27 decSm okSm goSm rdSm FSm muSm (.exit 0)
theorem lpSm_ok : LoopOk Q2 lsm famSm := famC_ok (vs := vsSm) (bs := fun p _ => bsSm p) Q2_ok mixed (noLoops_ok _) decSm_ok (by simp) (fun _ _ => rfl) (fun _ _ => rfl) stepSm exSm
noncomputable def smlist : List (Nat × LSpec) := [(3, famSm)]
theorem smreg : firstReg lsm = some 3 := by kernel_rfl
theorem one_lp {c : Code} {n : Nat} {sp : LSpec} {C : Cfg} {f : Nat} (e : loopsIn (codeOf Try.prog f) = [c]) (hr : firstReg c = some n) (h : LoopOk C c sp) : ∀ a ∈ loopsIn (codeOf Try.prog f), ∀ s, byReg [(n, sp)] a = some s → LoopOk C a s := by
  rw [e]
  intro a ha
  rcases List.mem_cons.1 ha with q | ha
  · rw [q]; exact byReg_mem hr (by simp [findL]) h
  · cases ha
noncomputable def sumS : Eng.Spec := execS Q2 (byReg smlist) 27
theorem sumS_ok : SpecOk Try.prog 27 sumS := execS_loops Q2_ok mixed Try.func27 (by kernel_rfl) (by kernel_rfl) (one_lp (c := lsm) (by kernel_rfl) smreg lpSm_ok)
def pSm (l : List (Nat × Nat)) : PSm := ⟨l, l.length, l.length⟩
noncomputable def eSm (l : List (Nat × Nat)) : ASm := endW (nxtC okSm goSm rdSm FSm muSm (pSm l)) ⟨0, 0, 0⟩
theorem sum_run (l : List (Nat × Nat)) : T.anon (sumS [.orow 23 CX l]) = .ite none (invC okSm (pSm l) ⟨0, 0, 0⟩) (.ret (cx (fW (eSm l).x) (fW (eSm l).y))) .fail := by kernel_rfl
theorem sum_is {l : List (Nat × Nat)} (hl : l.length ≤ 1000) (h : ∀ z ∈ l, okZ z) : invC okSm (pSm l) ⟨0, 0, 0⟩ = true ∧ (eSm l).x = bS l ∧ (eSm l).y = wS l := by
  have h0 : okSm (pSm l) ⟨0, 0, 0⟩ := ⟨rfl, rfl, hl, h, Int.le_refl 0, by show (0 : Int) ≤ (l.length : Int); omega, rfl, rfl⟩
  refine ⟨invC_is h0, ?_⟩
  obtain ⟨⟨-, -, -, -, e5, e6, e7, e8⟩, e9⟩ := endC stepSm h0
  have e10 : ¬ (eSm l).i < (l.length : Int) := of_decide_eq_false e9
  have e11 : (eSm l).i ≤ (l.length : Int) := e6
  have e12 : l.take (eSm l).i.toNat = l := List.take_of_length_le (by omega)
  have e13 : (eSm l).x = bS (l.take (eSm l).i.toNat) := e7
  have e14 : (eSm l).y = wS (l.take (eSm l).i.toNat) := e8
  rw [e13, e14, e12]
  exact ⟨rfl, rfl⟩
noncomputable def Q4 : Cfg := ⟨Try.prog, lookG [(21, .val yesD), (22, .val alikeC), (19, .val ofC), (23, .val busyC), (24, .val waitC), (25, .val swapC), (27, .val sumS)], [], 0⟩
theorem Q4_ok : Q4.Ok := Cfg.ok ⟨told_ok, alikeC_ok, ofC_ok, busyC_ok, waitC_ok, swapC_ok, sumS_ok, trivial⟩ trivial
noncomputable def rdL (p : PLs) (a : ALs) : T (Ex × St) := T.anon (roundN Q4 noLoops lls [0,1,5,6,7,8,9] SL 1000 1002 (mkSt [0,1,5,6,7,8,9] (keysR SL) 1002 88 (vsLs p a) (bsLs p a)))
def idN (g : List Int) (k : Nat) (i : Int) : Bool := decide (0 ≤ i) && (decide (i < (k : Int)) && decide (0 + i.toNat < g.length))
def ldN (g : List Int) (i : Int) : Bool := decide (0 + i.toNat < g.length)
def nL (p : PLs) (a : ALs) : Int := IntKind.wrap .i64 (Int.tmod (IntKind.wrap .u64 (gI p.g a.i)) 1000000)
def kL (p : PLs) (a : ALs) : Bool → Int
  | true => IntKind.wrap .i64 (Int.tmod (IntKind.wrap .u64 (gI p.h a.i)) 1000000)
  | false => 0
def zL (p : PLs) (a : ALs) (e : Bool) : Nat × Nat := (fW (nL p a), fW (kL p a e))
def chL : Bool → List Bool
  | true => [true, true, true, true, false, true, true, false, true, true]
  | false => [true, false, true, true, false, true, true]
def goL (p : PLs) (a : ALs) : Bool := bif decide (a.i < (p.k : Int)) then decide (a.i < 40) else false
def csL (p : PLs) (a : ALs) : Bool → List (Bool × Bool)
  | true => [(goL p a, true), (decide (a.i < (p.k' : Int)), true), (idN p.h p.k' a.i, true), (ldN p.h a.i, true), ((1000000 : Int) == 0, false), (idN p.g p.k a.i, true), (ldN p.g a.i, true), ((1000000 : Int) == 0, false),
      (true && (decide (a.j ≤ a.a.length) && decide (a.j + [zL p a true].length ≤ 1000000)), true), (decide (0 + a.j' ≤ a.b.length) && decide (1 + (List.take a.j' (List.drop 0 a.b)).length ≤ 1000000), true)]
  | false => [(goL p a, true), (decide (a.i < (p.k' : Int)), false), (idN p.g p.k a.i, true), (ldN p.g a.i, true), ((1000000 : Int) == 0, false),
      (true && (decide (a.j ≤ a.a.length) && decide (a.j + [zL p a false].length ≤ 1000000)), true), (decide (0 + a.j' ≤ a.b.length) && decide (1 + (List.take a.j' (List.drop 0 a.b)).length ≤ 1000000), true)]
theorem wayL (p : PLs) (a : ALs) (e : Bool) : T.path (chL e) (rdL p a) = some (csL p a e, (.normal, FLs p ⟨List.take a.j a.a ++ [zL p a e], a.j + [zL p a e].length, [zL p a e] ++ List.take a.j' (List.drop 0 a.b), 1 + (List.take a.j' (List.drop 0 a.b)).length, IntKind.wrap .i64 (a.x + nL p a), IntKind.wrap .i64 (a.y + kL p a e), IntKind.wrap .i64 (a.i + 1)⟩)) := by cases e <;> kernel_rfl
theorem wayLx (p : PLs) (a : ALs) : T.path [false] (rdL p a) = some ([(goL p a, false)], (.exit 0, FLs p a)) := by kernel_rfl
end Go.Proofs.Ytacdadifjgppbaa.Lod
