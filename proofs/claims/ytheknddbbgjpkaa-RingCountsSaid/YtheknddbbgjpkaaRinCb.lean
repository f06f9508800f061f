/- Layer 5: RingCounts: its inner rounds, its outer states. -/
import Derived.Test.YtheknddbbgjpkaaRinCa
import Derived.Test.YtheknddbbgjpkaaRinRt
namespace Go.Proofs.Ytheknddbbgjpkaa.Rin
open Go.Eng Go.RowKit Mil
set_option linter.unusedVariables false
set_option linter.unusedSimpArgs false
/-- the records of values one a time, from a on -/
def recF : Int → List Int → List Rec
  | _, [] => []
  | a, x :: r => (a, x) :: recF (a + 1) r
theorem recF_len : ∀ (a : Int) (v : List Int), (recF a v).length = v.length
  | _, [] => rfl
  | a, x :: r => by simp [recF, recF_len (a + 1) r]
theorem recF_app : ∀ (a : Int) (v : List Int) (x : Int), recF a (v ++ [x]) = recF a v ++ [(a + v.length, x)]
  | a, [], x => by simp [recF]
  | a, y :: r, x => by
    simp only [List.cons_append, recF, recF_app (a + 1) r x, List.length_cons]
    congr 3
    simp; omega
theorem recF_ge : ∀ (a : Int) (v : List Int) (k : Int), k < a → bk k (recF a v) = []
  | _, [], _, _ => rfl
  | a, x :: r, k, h => by
    have := recF_ge (a + 1) r k (by omega)
    unfold bk at *
    simp only [recF, List.filter_cons]
    rw [if_neg (by simp <;> omega)]; exact this
theorem recF_bk : ∀ (a : Int) (v : List Int) (k : Nat) (h : k < v.length), bk (a + k) (recF a v) = [(a + k, v[k])]
  | a, x :: r, 0, h => by
    have := recF_ge (a + 1) r a (by omega)
    unfold bk at *
    simp only [recF, List.filter_cons]
    rw [if_pos (by simp)]
    simp only [Int.natCast_zero, Int.add_zero] at *
    rw [this]; rfl
  | a, x :: r, k + 1, h => by
    have := recF_bk (a + 1) r k (by simpa using h)
    unfold bk at *
    simp only [recF, List.filter_cons]
    rw [if_neg (by simp <;> omega)]
    rw [show a + ((k + 1 : Nat) : Int) = a + 1 + (k : Int) by omega]
    rw [this]; rfl
theorem recF_in : ∀ {a : Int} {v : List Int} {z : Rec}, z ∈ recF a v → z.2 ∈ v
  | _, [], z, h => by cases h
  | a, x :: r, z, h => by
    rcases List.mem_cons.1 h with rfl | h
    · exact List.mem_cons_self
    · exact List.mem_cons_of_mem _ (recF_in h)
theorem sv_le {m : Int} : ∀ {rs : List Rec}, (∀ z ∈ rs, z.2 ≤ m) → sv rs ≤ m * rs.length
  | [], _ => by simp [sv]
  | z :: r, h => by
    rw [sv_cons, List.length_cons, Int.natCast_add, Int.mul_add]
    have := sv_le (rs := r) fun y hy => h y (List.mem_cons_of_mem _ hy)
    have := h z List.mem_cons_self
    simp; omega
def vI (v : List Int) (j : Int) : Int := v.getD (0 + j.toNat) 0
theorem wayRh (p : PRh) (a : ARh) : T.path [true, true, true] (rdRh p a) = some ([(decide (a.j ≤ p.i), true), (idR p.v p.m a.j, true), (ldR p.v a.j, true)], (.normal, FRh p ⟨IntKind.wrap .i64 (a.want + vI p.v a.j), IntKind.wrap .i64 (a.c + 1), IntKind.wrap .i64 (a.j + 1)⟩)) := by kernel_rfl
theorem wayRhx (p : PRh) (a : ARh) : T.path [false] (rdRh p a) = some ([(decide (a.j ≤ p.i), false)], (.exit 2, FRh p a)) := by kernel_rfl
structure okRh (p : PRh) (a : ARh) : Prop where
  m : p.m = p.v.length
  i1 : p.i < p.m
  m1 : p.m ≤ 150
  vs : ∀ y ∈ p.v, 0 ≤ y ∧ y < 1000000000
  j0 : 0 ≤ p.j0
  j1 : p.j0 ≤ a.j
  j2 : a.j ≤ max p.j0 (p.i + 1)
  want : a.want = sv (wn p.j0 a.j (recF 0 p.v))
  c : a.c = ((wn p.j0 a.j (recF 0 p.v)).length : Int)
def goRh (p : PRh) (a : ARh) : Bool := decide (a.j ≤ p.i)
def muRh (p : PRh) (a : ARh) : Nat := (p.i + 1 - a.j).toNat
theorem wn_bd {lo hi : Int} {v : List Int} (hv : ∀ y ∈ v, 0 ≤ y ∧ y < 1000000000) (hl : v.length ≤ 150) : 0 ≤ sv (wn lo hi (recF 0 v)) ∧ sv (wn lo hi (recF 0 v)) ≤ 1000000000 * 150 ∧ ((wn lo hi (recF 0 v)).length : Int) ≤ 150 := by
  have h1 : ∀ z ∈ wn lo hi (recF 0 v), 0 ≤ z.2 ∧ z.2 < 1000000000 := fun z hz => hv _ (recF_in (List.mem_filter.1 hz).1)
  have h2 : (wn lo hi (recF 0 v)).length ≤ (recF 0 v).length := List.length_filter_le _ _
  rw [recF_len] at h2
  have h3 := sv_le (m := 1000000000) fun z hz => by have := h1 z hz; omega
  refine ⟨sv_nonneg fun z hz => (h1 z hz).1, ?_, by omega⟩
  omega
theorem stepRh (p : PRh) (a : ARh) (h : okRh p a) (hg : goRh p a = true) : ∃ b, stepC okRh rdRh FRh muRh p a b := by
  obtain ⟨hm, i1, m1, hv, j0, j1, j2, hw, hc⟩ := h
  have hj : a.j ≤ p.i := of_decide_eq_true hg
  have e1 : IntKind.wrap .i64 (a.j + 1) = a.j + 1 := wrap64_in (by omega) (by omega)
  obtain ⟨x1, x2⟩ := idR_is (g := p.v) (k := p.m) (i := a.j) hm (by omega) (by omega)
  have hlt : a.j.toNat < p.v.length := by omega
  have hvj : vI p.v a.j = p.v[a.j.toNat] := getD0 rfl hlt
  obtain ⟨n1, n2⟩ := wn_next j1 (recF 0 p.v)
  have hb := recF_bk 0 p.v a.j.toNat hlt
  rw [show (0 : Int) + (a.j.toNat : Int) = a.j by omega] at hb
  rw [hb, sv_cons, sv_nil] at n1
  rw [hb] at n2
  have n1 : sv (wn p.j0 (a.j + 1) (recF 0 p.v)) = sv (wn p.j0 a.j (recF 0 p.v)) + p.v[a.j.toNat] := by simpa using n1
  obtain ⟨d1, d2, d3⟩ := wn_bd (lo := p.j0) (hi := a.j) hv (by omega)
  obtain ⟨d4, d5, d6⟩ := wn_bd (lo := p.j0) (hi := a.j + 1) hv (by omega)
  have e2 : IntKind.wrap .i64 (a.want + vI p.v a.j) = sv (wn p.j0 (a.j + 1) (recF 0 p.v)) := by rw [hw, hvj, ← n1]; exact wrap64_in (by omega) (by omega)
  have e3 : IntKind.wrap .i64 (a.c + 1) = ((wn p.j0 (a.j + 1) (recF 0 p.v)).length : Int) := by rw [hc, n2]; simp; exact wrap64_in (by omega) (by omega)
  refine ⟨_, T.path_eval (wayRh p a) ⟨hg, x1, x2, trivial⟩, ⟨hm, i1, m1, hv, j0, ?_, ?_, ?_, ?_⟩, ?_⟩
  · show p.j0 ≤ IntKind.wrap .i64 (a.j + 1); rw [e1]; omega
  · show IntKind.wrap .i64 (a.j + 1) ≤ _; rw [e1]; omega
  · show IntKind.wrap .i64 (a.want + vI p.v a.j) = sv (wn p.j0 (IntKind.wrap .i64 (a.j + 1)) _); rw [e1]; exact e2
  · show IntKind.wrap .i64 (a.c + 1) = ((wn p.j0 (IntKind.wrap .i64 (a.j + 1)) _).length : Int); rw [e1]; exact e3
  · show (p.i + 1 - IntKind.wrap .i64 (a.j + 1)).toNat < (p.i + 1 - a.j).toNat; rw [e1]; omega
theorem exRh (p : PRh) (a : ARh) (h : okRh p a) (hg : goRh p a = false) : (rdRh p a).eval = some (.exit 2, FRh p a) := T.path_eval (wayRhx p a) ⟨hg, trivial⟩
noncomputable def famRh : LSpec := famC [1,5,6,7,8,9,10,11] SRh 2000 2001 98 decRh okRh goRh rdRh FRh muRh (.exit 2)
theorem lpRh_ok : LoopOk RL lpRh famRh := famC_ok (vs := vsRh) (bs := bsRh) RL_ok mixed (noLoops_ok _) decRh_ok (by simp) (fun _ _ => rfl) (fun _ _ => rfl) stepRh exRh
noncomputable def lpRg : Code := lpCo
structure PRg where (kq : Nat) (q : List Int) (w0 : Int) (w : Int) (g : Int) (n : Nat)
structure ARg where (m : Nat) (i : Int) (nw : Int) (ov : Bool) (l : List OB) (v : List Int)
abbrev SRg : List (Nat × Src) := [(0, .same), (1, .same), (2, .same), (1000, .tmp 7)]
def vsRg (p : PRg) (a : ARg) : List V := [.sub 0 1 0 p.kq, iv p.w0, .ptr 1 0, .sub 1000 1 0 a.m, iv a.i]
def bsRg (p : PRg) (a : ARg) : List Blk := [.lst false 2 [.int .i64] p.q, .cells 138 [iv p.w, iv p.g, .sub 2 1 0 p.n, iv a.nw, bv a.ov], .bx 20 141 145 [.int .i64, .int .i64, .bool] a.l [] none, .lst true 2 [.int .i64] a.v]
noncomputable def FRg (p : PRg) (a : ARg) : St := mkSt [1,5,6,7,8] (keysR SRg) 1001 98 (vsRg p a) (bsRg p a)
noncomputable def rdRg (p : PRg) (a : ARg) : T (Ex × St) := T.anon (roundN RL (byReg [(rgRh, famRh)]) lpRg [1,5,6,7,8] SRg 1000 1001 (mkSt [1,5,6,7,8] (keysR SRg) 1001 98 (vsRg p a) (bsRg p a)))
def decRg : List V → List Blk → Option (PRg × ARg)
  | [.sub 0 1 0 kq, .s (.int .i64 w0), .ptr 1 0, .sub 1000 1 0 m, .s (.int .i64 i)], [.lst false tt0 [.int .i64] q, .cells tt1 [.s (.int .i64 w), .s (.int .i64 g), .sub 2 1 0 n, .s (.int .i64 nw), .s (.bool ov)], .bx tt2 tt3 tt4 [.int .i64, .int .i64, .bool] l [] none, .lst true tt5 [.int .i64] v] =>
    if tt0 = 2 then if tt1 = 138 then if tt2 = 20 then if tt3 = 141 then if tt4 = 145 then if tt5 = 2 then some (⟨kq, q, w0, w, g, n⟩, ⟨m, i, nw, ov, l, v⟩) else none else none else none else none else none else none
  | _, _ => none
theorem decRg_ok (l : List V) (b : List Blk) (d : PRg × ARg) (h : decRg l b = some d) : l = vsRg d.1 d.2 ∧ b = bsRg d.1 d.2 := by
  unfold decRg at h
  split at h
  · obtain ⟨e0, h⟩ := ite_some0 h
    obtain ⟨e1, h⟩ := ite_some0 h
    obtain ⟨e2, h⟩ := ite_some0 h
    obtain ⟨e3, h⟩ := ite_some0 h
    obtain ⟨e4, h⟩ := ite_some0 h
    obtain ⟨e5, h⟩ := ite_some0 h
    subst e0 e1 e2 e3 e4 e5
    cases h
    exact ⟨rfl, rfl⟩
  · cases h
noncomputable def rgRg : Nat := (firstReg lpRg).getD 0
theorem rgRg_is : firstReg lpRg = some rgRg := by kernel_rfl
theorem rgLoops : loopsIn lpRg = [lpRh] := by kernel_rfl
theorem rgIn : LoopsOkS RL (byReg [(rgRh, famRh)]) lpRg := lps_in rgLoops rgRh_is lpRh_ok
end Go.Proofs.Ytheknddbbgjpkaa.Rin
