import Derived.Laws.BitsLemmas
import Derived.Laws.Strings
import Derived.Test.YtnkingfmdgjmaaaGX
/- Layer 23: events: all events of some bytes: its loop. -/
namespace Go.Proofs.Ytnkingfmdgjmaaa.Evt
open Go.Eng Go.RowKit
set_option linter.unusedVariables false
set_option linter.unusedSimpArgs false
set_option maxRecDepth 100000
noncomputable def E4 : Cfg := ⟨Try.prog, lookG [(23, .val redS)], [], 0⟩
theorem E4_ok : E4.Ok := Cfg.ok ⟨red_ok, trivial⟩ trivial
noncomputable def lpAl : Code := loopAt Try.prog 17 0
structure PAl where (o : Bool) (n : Nat) (b : List Int)
structure AAl where (x : Int) (k : Nat) (l : List Ev)
abbrev SAl : List (Nat × Src) := [(0, .same), (4000, .tmp 5)]
def vsAl (p : PAl) (a : AAl) : List V := [.sub 0 1 0 p.n, .sub 4000 3 0 a.k, iv a.x]
def bsAl (p : PAl) (a : AAl) : List Blk := [.lst p.o 5 [.int .u8] p.b, .lst true 34 [.int .i64, .int .i64, .str] a.l]
noncomputable def FAl (p : PAl) (a : AAl) : St := mkSt [0,5,6] (keysR SAl) 4001 35 (vsAl p a) (bsAl p a)
abbrev SAlx : List (Nat × Src) := [(0, .same), (4000, .tmp 5)]
noncomputable def rdAl (p : PAl) (a : AAl) : T (Ex × St) := T.anon (roundX E4 noLoops lpAl [0,5,6] SAl [0,2,3,4,5] SAlx 4000 4001 (mkSt [0,5,6] (keysR SAl) 4001 35 (vsAl p a) (bsAl p a)))
def decAl_v0 : V → Option ((Nat))
  | .sub 0 1 0 n => some (n)
  | _ => none
theorem decAl_v0_ok (b : V) (x0 : (Nat)) (h : decAl_v0 b = some x0) : b = .sub 0 1 0 (x0) := by
  unfold decAl_v0 at h
  split at h
  · cases h
    rfl
  · cases h
def decAl_v1 : V → Option ((Nat))
  | .sub 4000 3 0 k => some (k)
  | _ => none
theorem decAl_v1_ok (b : V) (x1 : (Nat)) (h : decAl_v1 b = some x1) : b = .sub 4000 3 0 (x1) := by
  unfold decAl_v1 at h
  split at h
  · cases h
    rfl
  · cases h
def decAl_v2 : V → Option ((Int))
  | .s (.int .i64 x) => some (x)
  | _ => none
theorem decAl_v2_ok (b : V) (x2 : (Int)) (h : decAl_v2 b = some x2) : b = iv (x2) := by
  unfold decAl_v2 at h
  split at h
  · cases h
    rfl
  · cases h
def decAl_b0 : Blk → Option ((Bool) × (List Int))
  | .lst o tt0 [.int .u8] b => if tt0 = 5 then some (o, b) else none
  | _ => none
theorem decAl_b0_ok (b : Blk) (y0 : (Bool) × (List Int)) (h : decAl_b0 b = some y0) : b = .lst (y0.1) 5 [.int .u8] (y0.2) := by
  unfold decAl_b0 at h
  split at h
  · obtain ⟨e0, h⟩ := ite_some0 h
    subst e0
    cases h
    rfl
  · cases h
def decAl_b1 : Blk → Option ((List Ev))
  | .lst true tt0 [.int .i64, .int .i64, .str] l => if tt0 = 34 then some (l) else none
  | _ => none
theorem decAl_b1_ok (b : Blk) (y1 : (List Ev)) (h : decAl_b1 b = some y1) : b = .lst true 34 [.int .i64, .int .i64, .str] (y1) := by
  unfold decAl_b1 at h
  split at h
  · obtain ⟨e0, h⟩ := ite_some0 h
    subst e0
    cases h
    rfl
  · cases h
def decAl : List V → List Blk → Option (PAl × AAl)
  | [v0, v1, v2], [b0, b1] => (decAl_v0 v0).bind fun x0 => (decAl_v1 v1).bind fun x1 => (decAl_v2 v2).bind fun x2 => (decAl_b0 b0).bind fun y0 => (decAl_b1 b1).bind fun y1 => some (⟨(y0.1), (x0), (y0.2)⟩, ⟨(x2), (x1), (y1)⟩)
  | _, _ => none
theorem decAl_ok (l : List V) (b : List Blk) (d : PAl × AAl) (h : decAl l b = some d) : l = vsAl d.1 d.2 ∧ b = bsAl d.1 d.2 := by
  unfold decAl at h
  split at h
  · obtain ⟨x0, hx0, h⟩ := Option.bind_eq_some_iff.1 h
    obtain ⟨x1, hx1, h⟩ := Option.bind_eq_some_iff.1 h
    obtain ⟨x2, hx2, h⟩ := Option.bind_eq_some_iff.1 h
    obtain ⟨y0, hy0, h⟩ := Option.bind_eq_some_iff.1 h
    obtain ⟨y1, hy1, h⟩ := Option.bind_eq_some_iff.1 h
    have ex0 := decAl_v0_ok _ _ hx0
    have ex1 := decAl_v1_ok _ _ hx1
    have ex2 := decAl_v2_ok _ _ hx2
    have ey0 := decAl_b0_ok _ _ hy0
    have ey1 := decAl_b1_ok _ _ hy1
    cases h
    subst ex0 ex1 ex2 ey0 ey1
    exact ⟨rfl, rfl⟩
  · cases h
noncomputable def rgAl : Nat := (firstReg lpAl).getD 0
theorem rgAl_is : firstReg lpAl = some rgAl := by kernel_rfl
abbrev KE : List K := [.int .i64, .int .i64, .str]
def sl (p : PAl) (a : AAl) : List Int := List.take (Int.toNat (p.n : Int) - a.x.toNat) (List.drop a.x.toNat p.b)
def nxE (p : PAl) (a : AAl) : Ev × Int := (red (sl p a)).getD (e0, 0)
def hdA (p : PAl) (a : AAl) (c : Bool) : List (Bool × Bool) := [(decide (a.x < (p.n : Int)), true), (decide (0 ≤ a.x) && (decide (a.x ≤ (p.n : Int)) && (decide ((p.n : Int) ≤ (p.n : Int)) && decide (p.n ≤ p.b.length))), true), (decide (a.x.toNat + (Int.toNat (p.n : Int) - a.x.toNat) ≤ p.b.length), true), (byB (sl p a) && decide (0 < (sl p a).length), true), ((red (sl p a)).isSome, c)]
def oA (p : PAl) (a : AAl) : St := mkSt [0, 2, 3, 4, 5] [0, 4000] 4001 35 [.sub 0 1 0 p.n, .junk, .junk, .junk, .sub 4000 3 0 a.k] (bsAl p a)
def fA (p : PAl) (a : AAl) : St := mkSt [0, 2, 3, 4, 5] [0, 4000] 4001 35 [.sub 0 1 0 p.n, .sub 4000 3 0 a.k, iv 4, iv a.x, .sub 4000 3 0 a.k] (bsAl p a)
theorem al_n (p : PAl) (a : AAl) : T.path [true, true, true, true, true, true] (rdAl p a) = some (hdA p a true ++ [(apC a.k a.l (nxE p a).1, true)], (.normal, FAl p ⟨IntKind.wrap .i64 (a.x + (nxE p a).2), a.k + [(nxE p a).1].length, a.l.take a.k ++ [(nxE p a).1]⟩)) := by kernel_rfl
theorem al_f (p : PAl) (a : AAl) : T.path [true, true, true, true, false] (rdAl p a) = some (hdA p a false, (.ret, fA p a)) := by kernel_rfl
theorem al_x (p : PAl) (a : AAl) : T.path [false] (rdAl p a) = some ([(decide (a.x < (p.n : Int)), false)], (.exit 0, oA p a)) := by kernel_rfl
/-- all events from here on: those that are whole, and where it breaks off -/
def allG : Nat → List Int → Int → List Ev → List Ev × Option Int
  | 0, _, x, l => (l, some x)
  | f + 1, b, x, l => if b = [] then (l, none) else match red b with
    | none => (l, some x)
    | some e => allG f (b.drop e.2.toNat) (x + e.2) (l ++ [e.1])
theorem txt_size {l : List Int} (h : byB l = true) {e : Ev × Int} (ht : txt l = some e) : 2 ≤ e.2 ∧ e.2 ≤ l.length := by
  unfold txt at ht
  split at ht
  · rename_i q
    obtain rfl := Option.some.inj ht
    have := byB_get h 1
    exact ⟨by show 2 ≤ 2 + l.getD 1 0; omega, q.2⟩
  · cases ht
theorem red_size {l : List Int} (h : byB l = true) {e : Ev × Int} (ht : red l = some e) : 2 ≤ e.2 ∧ e.2 ≤ l.length := by
  unfold red at ht
  split at ht
  · exact txt_size h (Option.filter_eq_some_iff.1 ht).1
  · obtain ⟨x, hx, rfl⟩ := Option.map_eq_some_iff.1 ht
    have hx := (Option.filter_eq_some_iff.1 hx).1
    unfold num at hx
    split at hx
    · exact ⟨by show (2 : Int) ≤ 3; omega, by show (3 : Int) ≤ _; omega⟩
    · cases hx
def bb (p : PAl) : List Int := p.b.take p.n
theorem bb_len {p : PAl} (h : p.n ≤ p.b.length) : (bb p).length = p.n := by unfold bb; rw [List.length_take]; omega
structure okAl (p : PAl) (a : AAl) : Prop where
  n : p.n ≤ p.b.length
  n1 : p.n ≤ 100000
  by_ : byB (bb p) = true
  x0 : 0 ≤ a.x
  x1 : a.x ≤ p.n
  k : a.k = a.l.length
  k1 : a.l.length ≤ a.x.toNat
  g : ∃ f : Nat, p.n - a.x.toNat < f ∧ allG (p.n + 1) (bb p) 0 [] = allG f ((bb p).drop a.x.toNat) a.x a.l
def goAl (p : PAl) (a : AAl) : Bool := decide (a.x < (p.n : Int)) && (red (sl p a)).isSome
def muAl (p : PAl) (a : AAl) : Nat := (p.n - a.x).toNat
theorem byB_drop {l : List Int} (h : byB l = true) (i : Nat) : byB (l.drop i) = true := by
  unfold byB at *
  rw [List.all_eq_true] at *
  exact fun x hx => h x (List.mem_of_mem_drop hx)
theorem al_sl {p : PAl} {a : AAl} (h : okAl p a) : sl p a = (bb p).drop a.x.toNat := by
  unfold sl bb
  rw [List.drop_take]; rfl
theorem al_hd {p : PAl} {a : AAl} (h : okAl p a) (hx : a.x < (p.n : Int)) {c : Bool} (hc : (red (sl p a)).isSome = c) : allSay (hdA p a c) := by
  have e := al_sl h
  have hl := bb_len h.n
  obtain ⟨h1, h2, h3, h4, h5, -, -, -⟩ := h
  refine ⟨decide_eq_true hx, ?_, decide_eq_true (by omega), ?_, hc, trivial⟩
  · rw [decide_eq_true h4, decide_eq_true h5, decide_eq_true (Int.le_refl _), decide_eq_true (show p.n ≤ p.b.length by omega)]; rfl
  · rw [e, byB_drop h3, Bool.true_and]
    exact decide_eq_true (by rw [List.length_drop, hl]; omega)
theorem stepAl (p : PAl) (a : AAl) (h : okAl p a) (hg : goAl p a = true) : ∃ b, stepC okAl rdAl FAl muAl p a b := by
  unfold goAl at hg
  rw [Bool.and_eq_true, decide_eq_true_eq] at hg
  obtain ⟨hx, hs⟩ := hg
  have hd := al_hd h hx hs
  have e := al_sl h
  have hl := bb_len h.n
  obtain ⟨h1, h2, h3, h4, h5, h6, h7, f, h8, h9⟩ := h
  obtain ⟨y, hy⟩ := Option.isSome_iff_exists.1 hs
  have en : nxE p a = y := by unfold nxE; rw [hy]; rfl
  have hz := red_size (byB_drop h3 a.x.toNat) (e ▸ hy)
  rw [List.length_drop, hl] at hz
  have way := al_n p a
  rw [en, wrap64 (n := a.x + y.2) (by omega) (by omega), show a.l.take a.k = a.l by rw [h6, List.take_length]] at way
  refine ⟨_, T.path_eval way (allSay_append hd ⟨apC_is _ h6 (by omega), trivial⟩), ⟨h1, h2, h3, ?_, ?_, ?_, ?_, ?_⟩, ?_⟩
  · show 0 ≤ a.x + y.2; omega
  · show a.x + y.2 ≤ p.n; omega
  · show a.k + 1 = (a.l ++ [y.1]).length; rw [List.length_append, h6]; rfl
  · show (a.l ++ [y.1]).length ≤ (a.x + y.2).toNat
    rw [List.length_append, List.length_singleton]; omega
  · show ∃ f : Nat, p.n - (a.x + y.2).toNat < f ∧ _ = allG f ((bb p).drop (a.x + y.2).toNat) (a.x + y.2) (a.l ++ [y.1])
    cases f with
    | zero => omega
    | succ f =>
      refine ⟨f, by omega, ?_⟩
      rw [h9]
      have hne : (bb p).drop a.x.toNat ≠ [] := fun q => by
        have := congrArg List.length q
        rw [List.length_drop, hl] at this
        simp at this
        omega
      rw [e] at hy
      show (if (bb p).drop a.x.toNat = [] then _ else _) = _
      rw [if_neg hne, hy]
      show allG f (((bb p).drop a.x.toNat).drop y.2.toNat) (a.x + y.2) (a.l ++ [y.1]) = _
      rw [List.drop_drop, show a.x.toNat + y.2.toNat = (a.x + y.2).toNat by omega]
  · show (p.n - (a.x + y.2)).toNat < (p.n - a.x).toNat
    omega
def outAl (p : PAl) (a : AAl) : T (Ex × St) := .ite none (decide (a.x < (p.n : Int))) (.ret (.ret, fA p a)) (.ret (.exit 0, oA p a))
theorem exAl (p : PAl) (a : AAl) (h : okAl p a) (hg : goAl p a = false) (r : Ex × St) (hr : (outAl p a).eval = some r) : r.1 ≠ .normal ∧ (rdAl p a).eval = some r := by
  unfold outAl at hr
  by_cases hx : a.x < (p.n : Int)
  · have hs : (red (sl p a)).isSome = false := by
      unfold goAl at hg
      rw [decide_eq_true hx, Bool.true_and] at hg
      exact hg
    rw [decide_eq_true hx] at hr
    obtain rfl := Option.some.inj hr
    exact ⟨by simp, T.path_eval (al_f p a) (al_hd h hx hs)⟩
  · rw [decide_eq_false hx] at hr
    obtain rfl := Option.some.inj hr
    exact ⟨by simp, T.path_eval (al_x p a) ⟨decide_eq_false hx, trivial⟩⟩
noncomputable def famAl : LSpec := famE [0,5,6] SAl SAlx 4000 4001 35 decAl okAl goAl rdAl FAl muAl outAl
theorem lpAl_ok : LoopOk E4 lpAl famAl := famE_ok (vs := vsAl) (bs := bsAl) E4_ok mixed (noLoops_ok _) decAl_ok (fun _ _ => rfl) (fun _ _ => rfl) stepAl exAl
end Go.Proofs.Ytnkingfmdgjmaaa.Evt

/- Layer 23: events: all events of some bytes: its contract. -/
namespace Go.Proofs.Ytnkingfmdgjmaaa.Evt
open Go.Eng Go.RowKit
set_option linter.unusedVariables false
set_option linter.unusedSimpArgs false
set_option maxRecDepth 100000
noncomputable def allL : Eng.Obj := execO E4 (byReg [(rgAl, famAl)]) 17
theorem allL_ok : ObjOk Try.prog 17 allL := execO_loops E4_ok mixed Try.func17 (by kernel_rfl) (by kernel_rfl) (one_lp (by kernel_rfl) rgAl_is lpAl_ok)
def byBk (o : Bool) (b : List Int) : Blk := .lst o 5 [.int .u8] b
def evBk (l : List Ev) : Blk := .lst true 34 [.int .i64, .int .i64, .str] l
def outBk (o : Bool) (b : List Int) : Heap := bif o then [(0, byBk true b)] else []
noncomputable def eAl (o : Bool) (n : Nat) (b : List Int) : AAl := endW (nxtC okAl goAl rdAl FAl muAl ⟨o, n, b⟩) ⟨0, 0, []⟩
theorem all_f (o : Bool) (n : Nat) (b : List Int) : T.path [true, true] (T.anon (allL [.sub 0 1 0 n] [(0, byBk o b)])) = some ([(invC okAl ⟨o, n, b⟩ ⟨0, 0, []⟩, true), (decide ((eAl o n b).x < (n : Int)), true)], (.tup [.sub 4000 3 0 (eAl o n b).k, iv 4, iv (eAl o n b).x], outBk o b ++ [(4000, evBk (eAl o n b).l)])) := by cases o <;> kernel_rfl
theorem all_n (o : Bool) (n : Nat) (b : List Int) : T.path [true, false] (T.anon (allL [.sub 0 1 0 n] [(0, byBk o b)])) = some ([(invC okAl ⟨o, n, b⟩ ⟨0, 0, []⟩, true), (decide ((eAl o n b).x < (n : Int)), false)], (.tup [.sub 4000 3 0 (eAl o n b).k, iv 0, iv 0], outBk o b ++ [(4000, evBk (eAl o n b).l)])) := by cases o <;> kernel_rfl
/-- all events of some bytes -/
def allR (b : List Int) : List Ev × Option Int := allG (b.length + 1) b 0 []
def gdA (n : Nat) (b : List Int) : Bool := decide (n ≤ b.length) && (decide (n ≤ 100000) && byB (b.take n))
theorem all_end {o : Bool} {n : Nat} {b : List Int} (h : gdA n b = true) : invC okAl ⟨o, n, b⟩ ⟨0, 0, []⟩ = true ∧ (eAl o n b).k = (eAl o n b).l.length ∧ (eAl o n b).l = (allR (b.take n)).1 ∧ (allR (b.take n)).2 = (if (eAl o n b).x < (n : Int) then some (eAl o n b).x else none) := by
  unfold gdA at h
  rw [Bool.and_eq_true, Bool.and_eq_true, decide_eq_true_eq, decide_eq_true_eq] at h
  obtain ⟨g1, g2, g3⟩ := h
  have h0 : okAl ⟨o, n, b⟩ ⟨0, 0, []⟩ := ⟨g1, g2, g3, Int.le_refl _, by show (0 : Int) ≤ (n : Int); omega, rfl, Nat.le_refl _, n + 1, by show n - 0 < n + 1; omega, rfl⟩
  obtain ⟨k1, k2⟩ := endC stepAl h0
  have k1 : okAl ⟨o, n, b⟩ (eAl o n b) := k1
  have k2 : goAl ⟨o, n, b⟩ (eAl o n b) = false := k2
  have hl : (b.take n).length = n := by rw [List.length_take]; omega
  have e := al_sl k1
  refine ⟨invC_is h0, k1.k, ?_⟩
  obtain ⟨-, -, -, x0, x1, -, -, f, q1, q2⟩ := k1
  have q2 : allG (n + 1) (b.take n) 0 [] = allG f ((b.take n).drop (eAl o n b).x.toNat) (eAl o n b).x (eAl o n b).l := q2
  have x1 : (eAl o n b).x ≤ (n : Int) := x1
  unfold allR
  rw [hl, q2]
  cases f with
  | zero => omega
  | succ f =>
    by_cases hx : (eAl o n b).x < (n : Int)
    · have hne : (b.take n).drop (eAl o n b).x.toNat ≠ [] := fun q => by
        have := congrArg List.length q
        rw [List.length_drop, hl] at this
        simp at this
        omega
      have hr : red ((b.take n).drop (eAl o n b).x.toNat) = none := by
        unfold goAl at k2
        rw [decide_eq_true (show (eAl o n b).x < ((PAl.n ⟨o, n, b⟩ : Nat) : Int) from hx), Bool.true_and, e] at k2
        have k2 : (red ((b.take n).drop (eAl o n b).x.toNat)).isSome = false := k2
        exact Option.isNone_iff_eq_none.1 (by rw [← Option.not_isSome, k2]; rfl)
      unfold allG
      rw [if_neg hne, hr, if_pos hx]
      exact ⟨rfl, rfl⟩
    · have hnil : (b.take n).drop (eAl o n b).x.toNat = [] := List.drop_eq_nil_of_le (by rw [hl]; omega)
      unfold allG
      rw [if_pos hnil, if_neg hx]
      exact ⟨rfl, rfl⟩
def asBy (args : List V) (h : Heap) : Option (Bool × Nat × List Int) :=
  match args, h with
  | [.sub 0 1 0 n], [(0, .lst o t [.int .u8] b)] => if t = 5 then some (o, n, b) else none
  | _, _ => none
theorem asBy_ok {args : List V} {h : Heap} {r : Bool × Nat × List Int} (e : asBy args h = some r) : args = [.sub 0 1 0 r.2.1] ∧ h = [(0, byBk r.1 r.2.2)] := by
  unfold asBy at e
  split at e
  · obtain ⟨q, e⟩ := ite_some0 e
    subst q
    cases e; exact ⟨rfl, rfl⟩
  · cases e
noncomputable def allS : Eng.Obj := fun args h => match asBy args h with
  | some r => .ite none (gdA r.2.1 r.2.2) (.ite none (allR (r.2.2.take r.2.1)).2.isSome (.ret (.tup [.sub 4000 3 0 (allR (r.2.2.take r.2.1)).1.length, iv 4, iv ((allR (r.2.2.take r.2.1)).2.getD 0)], outBk r.1 r.2.2 ++ [(4000, evBk (allR (r.2.2.take r.2.1)).1)])) (.ret (.tup [.sub 4000 3 0 (allR (r.2.2.take r.2.1)).1.length, iv 0, iv 0], outBk r.1 r.2.2 ++ [(4000, evBk (allR (r.2.2.take r.2.1)).1)]))) .fail
  | none => .fail
theorem allS_ok : ObjOk Try.prog 17 allS := allL_ok.of_eval fun args h x hv => by
  unfold allS at hv
  split at hv
  · rename_i r hr
    obtain ⟨e1, e2⟩ := asBy_ok hr
    obtain ⟨o, n, b⟩ := r
    simp only at e1 e2 hv
    subst e1; subst e2
    rw [← T.eval_anon (t := allL _ _)]
    obtain ⟨hg, hv⟩ := ite_T' hv
    obtain ⟨a1, a2, a3, a4⟩ := all_end (o := o) hg
    rw [a4, ← a3] at hv
    by_cases hx : (eAl o n b).x < (n : Int)
    · rw [if_pos hx] at hv
      obtain rfl := Option.some.inj hv
      rw [T.path_eval (all_f o n b) ⟨a1, decide_eq_true hx, trivial⟩, a2]
      rfl
    · rw [if_neg hx] at hv
      obtain rfl := Option.some.inj hv
      rw [T.path_eval (all_n o n b) ⟨a1, decide_eq_false hx, trivial⟩, a2]
  · cases hv
end Go.Proofs.Ytnkingfmdgjmaaa.Evt

/- Layer 23: events: their bytes: the loops. -/
namespace Go.Proofs.Ytnkingfmdgjmaaa.Evt
open Go.Eng Go.RowKit
set_option linter.unusedVariables false
set_option linter.unusedSimpArgs false
set_option maxRecDepth 100000
noncomputable def E5 : Cfg := ⟨Try.prog, lookG [(13, .val mayS)], [], 0⟩
theorem E5_ok : E5.Ok := Cfg.ok ⟨may_ok, trivial⟩ trivial
noncomputable def lpPm : Code := loopAt Try.prog 11 0
structure PPm where (o : Bool) (n : Nat) (m : Nat) (l : List Ev) (z : Int)
structure APm where (i : Int)
abbrev SPm : List (Nat × Src) := [(0, .same), (1, .same)]
def vsPm (p : PPm) (a : APm) : List V := [.sub 0 3 0 p.m, .sub 1 1 0 0, .sub 0 3 0 p.n, iv p.z, iv a.i]
def bsPm (p : PPm) (a : APm) : List Blk := [.lst p.o 34 [.int .i64, .int .i64, .str] p.l, .lst true 5 [.int .u8] []]
noncomputable def FPm (p : PPm) (a : APm) : St := mkSt [0,2,9,10,11] (keysR SPm) 5001 57 (vsPm p a) (bsPm p a)
abbrev SPmx : List (Nat × Src) := [(0, .same), (5000, .tmp 2)]
noncomputable def rdPm (p : PPm) (a : APm) : T (Ex × St) := T.anon (roundX E5 noLoops lpPm [0,2,9,10,11] SPm [0,2,3] SPmx 4000 5001 (mkSt [0,2,9,10,11] (keysR SPm) 5001 57 (vsPm p a) (bsPm p a)))
def decPm_v0 : V → Option ((Nat))
  | .sub 0 3 0 m => some (m)
  | _ => none
theorem decPm_v0_ok (b : V) (x0 : (Nat)) (h : decPm_v0 b = some x0) : b = .sub 0 3 0 (x0) := by
  unfold decPm_v0 at h
  split at h
  · cases h
    rfl
  · cases h
def decPm_v1 : V → Option (Unit)
  | .sub 1 1 0 0 => some ()
  | _ => none
theorem decPm_v1_ok (b : V) (x1 : Unit) (h : decPm_v1 b = some x1) : b = .sub 1 1 0 0 := by
  unfold decPm_v1 at h
  split at h
  · cases h
    rfl
  · cases h
def decPm_v2 : V → Option ((Nat))
  | .sub 0 3 0 n => some (n)
  | _ => none
theorem decPm_v2_ok (b : V) (x2 : (Nat)) (h : decPm_v2 b = some x2) : b = .sub 0 3 0 (x2) := by
  unfold decPm_v2 at h
  split at h
  · cases h
    rfl
  · cases h
def decPm_v3 : V → Option ((Int))
  | .s (.int .i64 z) => some (z)
  | _ => none
theorem decPm_v3_ok (b : V) (x3 : (Int)) (h : decPm_v3 b = some x3) : b = iv (x3) := by
  unfold decPm_v3 at h
  split at h
  · cases h
    rfl
  · cases h
def decPm_v4 : V → Option ((Int))
  | .s (.int .i64 i) => some (i)
  | _ => none
theorem decPm_v4_ok (b : V) (x4 : (Int)) (h : decPm_v4 b = some x4) : b = iv (x4) := by
  unfold decPm_v4 at h
  split at h
  · cases h
    rfl
  · cases h
def decPm_b0 : Blk → Option ((Bool) × (List Ev))
  | .lst o tt0 [.int .i64, .int .i64, .str] l => if tt0 = 34 then some (o, l) else none
  | _ => none
theorem decPm_b0_ok (b : Blk) (y0 : (Bool) × (List Ev)) (h : decPm_b0 b = some y0) : b = .lst (y0.1) 34 [.int .i64, .int .i64, .str] (y0.2) := by
  unfold decPm_b0 at h
  split at h
  · obtain ⟨e0, h⟩ := ite_some0 h
    subst e0
    cases h
    rfl
  · cases h
def decPm_b1 : Blk → Option (Unit)
  | .lst true tt0 [.int .u8] [] => if tt0 = 5 then some () else none
  | _ => none
theorem decPm_b1_ok (b : Blk) (y1 : Unit) (h : decPm_b1 b = some y1) : b = .lst true 5 [.int .u8] [] := by
  unfold decPm_b1 at h
  split at h
  · obtain ⟨e0, h⟩ := ite_some0 h
    subst e0
    cases h
    rfl
  · cases h
def decPm : List V → List Blk → Option (PPm × APm)
  | [v0, v1, v2, v3, v4], [b0, b1] => (decPm_v0 v0).bind fun x0 => (decPm_v1 v1).bind fun x1 => (decPm_v2 v2).bind fun x2 => (decPm_v3 v3).bind fun x3 => (decPm_v4 v4).bind fun x4 => (decPm_b0 b0).bind fun y0 => (decPm_b1 b1).bind fun y1 => some (⟨(y0.1), (x2), (x0), (y0.2), (x3)⟩, ⟨(x4)⟩)
  | _, _ => none
theorem decPm_ok (l : List V) (b : List Blk) (d : PPm × APm) (h : decPm l b = some d) : l = vsPm d.1 d.2 ∧ b = bsPm d.1 d.2 := by
  unfold decPm at h
  split at h
  · obtain ⟨x0, hx0, h⟩ := Option.bind_eq_some_iff.1 h
    obtain ⟨x1, hx1, h⟩ := Option.bind_eq_some_iff.1 h
    obtain ⟨x2, hx2, h⟩ := Option.bind_eq_some_iff.1 h
    obtain ⟨x3, hx3, h⟩ := Option.bind_eq_some_iff.1 h
    obtain ⟨x4, hx4, h⟩ := Option.bind_eq_some_iff.1 h
    obtain ⟨y0, hy0, h⟩ := Option.bind_eq_some_iff.1 h
    obtain ⟨y1, hy1, h⟩ := Option.bind_eq_some_iff.1 h
    have ex0 := decPm_v0_ok _ _ hx0
    have ex1 := decPm_v1_ok _ _ hx1
    have ex2 := decPm_v2_ok _ _ hx2
    have ex3 := decPm_v3_ok _ _ hx3
    have ex4 := decPm_v4_ok _ _ hx4
    have ey0 := decPm_b0_ok _ _ hy0
    have ey1 := decPm_b1_ok _ _ hy1
    cases h
    subst ex0 ex1 ex2 ex3 ex4 ey0 ey1
    exact ⟨rfl, rfl⟩
  · cases h
noncomputable def rgPm : Nat := (firstReg lpPm).getD 0
theorem rgPm_is : firstReg lpPm = some rgPm := by kernel_rfl
noncomputable def lpPb : Code := loopAt Try.prog 11 1
structure PPb where (o : Bool) (n : Nat) (m : Nat) (l : List Ev) (z : Int)
structure APb where (i : Int) (k : Nat) (b : List Int)
abbrev SPb : List (Nat × Src) := [(0, .same), (6000, .tmp 6)]
def vsPb (p : PPb) (a : APb) : List V := [.sub 0 3 0 p.m, .sub 6000 1 0 a.k, .sub 0 3 0 p.n, iv p.z, iv a.i]
def bsPb (p : PPb) (a : APb) : List Blk := [.lst p.o 34 [.int .i64, .int .i64, .str] p.l, .lst true 5 [.int .u8] a.b]
noncomputable def FPb (p : PPb) (a : APb) : St := mkSt [0,6,19,20,21] (keysR SPb) 6001 57 (vsPb p a) (bsPb p a)
noncomputable def rdPb (p : PPb) (a : APb) : T (Ex × St) := T.anon (roundN E5 noLoops lpPb [0,6,19,20,21] SPb 6000 6001 (mkSt [0,6,19,20,21] (keysR SPb) 6001 57 (vsPb p a) (bsPb p a)))
def decPb_v0 : V → Option ((Nat))
  | .sub 0 3 0 m => some (m)
  | _ => none
theorem decPb_v0_ok (b : V) (x0 : (Nat)) (h : decPb_v0 b = some x0) : b = .sub 0 3 0 (x0) := by
  unfold decPb_v0 at h
  split at h
  · cases h
    rfl
  · cases h
def decPb_v1 : V → Option ((Nat))
  | .sub 6000 1 0 k => some (k)
  | _ => none
theorem decPb_v1_ok (b : V) (x1 : (Nat)) (h : decPb_v1 b = some x1) : b = .sub 6000 1 0 (x1) := by
  unfold decPb_v1 at h
  split at h
  · cases h
    rfl
  · cases h
def decPb_v2 : V → Option ((Nat))
  | .sub 0 3 0 n => some (n)
  | _ => none
theorem decPb_v2_ok (b : V) (x2 : (Nat)) (h : decPb_v2 b = some x2) : b = .sub 0 3 0 (x2) := by
  unfold decPb_v2 at h
  split at h
  · cases h
    rfl
  · cases h
def decPb_v3 : V → Option ((Int))
  | .s (.int .i64 z) => some (z)
  | _ => none
theorem decPb_v3_ok (b : V) (x3 : (Int)) (h : decPb_v3 b = some x3) : b = iv (x3) := by
  unfold decPb_v3 at h
  split at h
  · cases h
    rfl
  · cases h
def decPb_v4 : V → Option ((Int))
  | .s (.int .i64 i) => some (i)
  | _ => none
theorem decPb_v4_ok (b : V) (x4 : (Int)) (h : decPb_v4 b = some x4) : b = iv (x4) := by
  unfold decPb_v4 at h
  split at h
  · cases h
    rfl
  · cases h
def decPb_b0 : Blk → Option ((Bool) × (List Ev))
  | .lst o tt0 [.int .i64, .int .i64, .str] l => if tt0 = 34 then some (o, l) else none
  | _ => none
theorem decPb_b0_ok (b : Blk) (y0 : (Bool) × (List Ev)) (h : decPb_b0 b = some y0) : b = .lst (y0.1) 34 [.int .i64, .int .i64, .str] (y0.2) := by
  unfold decPb_b0 at h
  split at h
  · obtain ⟨e0, h⟩ := ite_some0 h
    subst e0
    cases h
    rfl
  · cases h
def decPb_b1 : Blk → Option ((List Int))
  | .lst true tt0 [.int .u8] b => if tt0 = 5 then some (b) else none
  | _ => none
theorem decPb_b1_ok (b : Blk) (y1 : (List Int)) (h : decPb_b1 b = some y1) : b = .lst true 5 [.int .u8] (y1) := by
  unfold decPb_b1 at h
  split at h
  · obtain ⟨e0, h⟩ := ite_some0 h
    subst e0
    cases h
    rfl
  · cases h
def decPb : List V → List Blk → Option (PPb × APb)
  | [v0, v1, v2, v3, v4], [b0, b1] => (decPb_v0 v0).bind fun x0 => (decPb_v1 v1).bind fun x1 => (decPb_v2 v2).bind fun x2 => (decPb_v3 v3).bind fun x3 => (decPb_v4 v4).bind fun x4 => (decPb_b0 b0).bind fun y0 => (decPb_b1 b1).bind fun y1 => some (⟨(y0.1), (x2), (x0), (y0.2), (x3)⟩, ⟨(x4), (x1), (y1)⟩)
  | _, _ => none
theorem decPb_ok (l : List V) (b : List Blk) (d : PPb × APb) (h : decPb l b = some d) : l = vsPb d.1 d.2 ∧ b = bsPb d.1 d.2 := by
  unfold decPb at h
  split at h
  · obtain ⟨x0, hx0, h⟩ := Option.bind_eq_some_iff.1 h
    obtain ⟨x1, hx1, h⟩ := Option.bind_eq_some_iff.1 h
    obtain ⟨x2, hx2, h⟩ := Option.bind_eq_some_iff.1 h
    obtain ⟨x3, hx3, h⟩ := Option.bind_eq_some_iff.1 h
    obtain ⟨x4, hx4, h⟩ := Option.bind_eq_some_iff.1 h
    obtain ⟨y0, hy0, h⟩ := Option.bind_eq_some_iff.1 h
    obtain ⟨y1, hy1, h⟩ := Option.bind_eq_some_iff.1 h
    have ex0 := decPb_v0_ok _ _ hx0
    have ex1 := decPb_v1_ok _ _ hx1
    have ex2 := decPb_v2_ok _ _ hx2
    have ex3 := decPb_v3_ok _ _ hx3
    have ex4 := decPb_v4_ok _ _ hx4
    have ey0 := decPb_b0_ok _ _ hy0
    have ey1 := decPb_b1_ok _ _ hy1
    cases h
    subst ex0 ex1 ex2 ex3 ex4 ey0 ey1
    exact ⟨rfl, rfl⟩
  · cases h
noncomputable def rgPb : Nat := (firstReg lpPb).getD 0
theorem rgPb_is : firstReg lpPb = some rgPb := by kernel_rfl
/-! ### may all stand so? -/
def mE (e : Ev) : Bool := mayE e.1 e.2.1 e.2.2
def xM (p : PPm) (a : APm) : Ev := p.l.getD (0 + a.i.toNat) e0
def hdM (p : PPm) (a : APm) (c : Bool) : List (Bool × Bool) := [(decide (a.i < p.z), true), (idR p.l p.n a.i, true), (ldR p.l a.i, true), (!mE (xM p a), c)]
def oM (p : PPm) (a : APm) : St := mkSt [0, 2, 3] [0, 5000] 5001 57 [.sub 0 3 0 p.m, .sub 5000 1 0 0, .junk] (bsPm p a)
def fM (p : PPm) (a : APm) : St := mkSt [0, 2, 3] [0, 5000] 5001 57 [.sub 0 3 0 p.m, .sub 5000 1 0 0, iv 1] (bsPm p a)
theorem pm_n (p : PPm) (a : APm) : T.path [true, true, true, false] (rdPm p a) = some (hdM p a false, (.normal, FPm p ⟨IntKind.wrap .i64 (a.i + 1)⟩)) := by kernel_rfl
theorem pm_f (p : PPm) (a : APm) : T.path [true, true, true, true] (rdPm p a) = some (hdM p a true, (.ret, fM p a)) := by kernel_rfl
theorem pm_x (p : PPm) (a : APm) : T.path [false] (rdPm p a) = some ([(decide (a.i < p.z), false)], (.exit 0, oM p a)) := by kernel_rfl
structure okPm (p : PPm) (a : APm) : Prop where
  n : p.n ≤ p.l.length
  n1 : p.n ≤ 1000
  z : p.z = p.n
  i0 : 0 ≤ a.i
  i1 : a.i ≤ p.z
  g : ∀ e ∈ p.l.take a.i.toNat, mE e = true
def goPm (p : PPm) (a : APm) : Bool := decide (a.i < p.z) && mE (xM p a)
def muPm (p : PPm) (a : APm) : Nat := (p.z - a.i).toNat
/-- a place within the first of some rows -/
theorem idR_in {α : Type} {g : List α} {k : Nat} {i : Int} (h : k ≤ g.length) (h0 : 0 ≤ i) (h1 : i < k) : idR g k i = true ∧ ldR g i = true := by
  unfold idR ldR
  rw [decide_eq_true h0, decide_eq_true h1, decide_eq_true (show 0 + i.toNat < g.length by omega)]
  exact ⟨rfl, rfl⟩
theorem pm_hd {p : PPm} {a : APm} (h : okPm p a) (hi : a.i < p.z) {c : Bool} (hc : (!mE (xM p a)) = c) : allSay (hdM p a c) := by
  obtain ⟨y1, y2⟩ := idR_in (g := p.l) (k := p.n) (i := a.i) h.n h.i0 (by have := h.z; omega)
  exact ⟨decide_eq_true hi, y1, y2, hc, trivial⟩
theorem stepPm (p : PPm) (a : APm) (h : okPm p a) (hg : goPm p a = true) : ∃ b, stepC okPm rdPm FPm muPm p a b := by
  unfold goPm at hg
  rw [Bool.and_eq_true, decide_eq_true_eq] at hg
  obtain ⟨hi, hm⟩ := hg
  have hd := pm_hd h hi (c := false) (by rw [hm]; rfl)
  obtain ⟨h1, h2, h3, h4, h5, h6⟩ := h
  have hl : a.i.toNat < p.l.length := by omega
  have way := pm_n p a
  rw [wrap64 (n := a.i + 1) (by omega) (by omega)] at way
  refine ⟨_, T.path_eval way hd, ⟨h1, h2, h3, by show 0 ≤ a.i + 1; omega, by show a.i + 1 ≤ p.z; omega, ?_⟩, by show (p.z - (a.i + 1)).toNat < (p.z - a.i).toNat; omega⟩
  show ∀ e ∈ p.l.take (a.i + 1).toNat, mE e = true
  rw [take_next h4 hl]
  intro e he
  rcases List.mem_append.1 he with q | q
  · exact h6 e q
  · have := List.mem_singleton.1 q
    rw [this, ← getD0 (d := e0) (i := a.i) rfl hl]
    exact hm
def outPm (p : PPm) (a : APm) : T (Ex × St) := .ite none (decide (a.i < p.z)) (.ret (.ret, fM p a)) (.ret (.exit 0, oM p a))
theorem exPm (p : PPm) (a : APm) (h : okPm p a) (hg : goPm p a = false) (r : Ex × St) (hr : (outPm p a).eval = some r) : r.1 ≠ .normal ∧ (rdPm p a).eval = some r := by
  unfold outPm at hr
  by_cases hi : a.i < p.z
  · have hm : mE (xM p a) = false := by
      unfold goPm at hg
      rw [decide_eq_true hi, Bool.true_and] at hg
      exact hg
    rw [decide_eq_true hi] at hr
    obtain rfl := Option.some.inj hr
    exact ⟨by simp, T.path_eval (pm_f p a) (pm_hd h hi (by rw [hm]; rfl))⟩
  · rw [decide_eq_false hi] at hr
    obtain rfl := Option.some.inj hr
    exact ⟨by simp, T.path_eval (pm_x p a) ⟨decide_eq_false hi, trivial⟩⟩
noncomputable def famPm : LSpec := famE [0,2,9,10,11] SPm SPmx 4000 5001 57 decPm okPm goPm rdPm FPm muPm outPm
theorem lpPm_ok : LoopOk E5 lpPm famPm := famE_ok (vs := vsPm) (bs := bsPm) E5_ok mixed (noLoops_ok _) decPm_ok (fun _ _ => rfl) (fun _ _ => rfl) stepPm exPm
/-! ### their bytes -/
def w8 (n : Int) : Int := IntKind.wrap .u8 n
def encW (e : Ev) : List Int := if e.1 = 5 then [w8 e.1, w8 (e.2.2.size : Int)] ++ strRow e.2.2 else [w8 e.1, w8 (Int.fdiv e.2.1 256), w8 e.2.1]
/-- an event's bytes -/
def encE (e : Ev) : List Int := if e.1 = 5 then 5 :: (e.2.2.size : Int) :: strRow e.2.2 else [e.1, e.2.1 / 256, e.2.1 % 256]
theorem w8_in {n : Int} (h0 : 0 ≤ n) (h1 : n < 256) : w8 n = n := by unfold w8; rw [IntKind.wrap_u8]; omega
theorem wit_in {k n : Int} (h : wit k n = true) : (k = 1 ∨ k = 2 ∨ k = 3 ∨ k = 4 ∨ k = 6) ∧ 0 ≤ n ∧ n ≤ 999 := by
  unfold wit at h
  split at h
  · rw [Bool.and_eq_true, decide_eq_true_eq, decide_eq_true_eq] at h; omega
  split at h
  · rw [Bool.and_eq_true, decide_eq_true_eq, decide_eq_true_eq] at h; omega
  split at h
  · rw [Bool.and_eq_true, decide_eq_true_eq, decide_eq_true_eq] at h; omega
  split at h
  · rw [Bool.and_eq_true, decide_eq_true_eq, decide_eq_true_eq] at h; omega
  · cases h
theorem mE_5 {e : Ev} (h : mE e = true) (h5 : e.1 = 5) : e.2.1 = 0 ∧ e.2.2.size ≤ 200 := by
  unfold mE mayE at h
  rw [if_pos h5, Bool.and_eq_true, beq_iff_eq, decide_eq_true_eq] at h
  exact ⟨h.1, by omega⟩
theorem mE_n {e : Ev} (h : mE e = true) (h5 : e.1 ≠ 5) : noS e.2.2 = true ∧ (e.1 = 1 ∨ e.1 = 2 ∨ e.1 = 3 ∨ e.1 = 4 ∨ e.1 = 6) ∧ 0 ≤ e.2.1 ∧ e.2.1 ≤ 999 := by
  unfold mE mayE at h
  rw [if_neg h5, Bool.and_eq_true] at h
  exact ⟨h.1, wit_in h.2⟩
theorem encW_is {e : Ev} (h : mE e = true) : encW e = encE e := by
  unfold encW encE
  by_cases h5 : e.1 = 5
  · obtain ⟨_, h2⟩ := mE_5 h h5
    rw [if_pos h5, if_pos h5, h5, w8_in (n := 5) (by decide) (by decide), w8_in (n := (e.2.2.size : Int)) (by omega) (by omega)]
    rfl
  · obtain ⟨_, h2, h3, h4⟩ := mE_n h h5
    rw [if_neg h5, if_neg h5, w8_in (n := e.1) (by omega) (by omega), Int.fdiv_eq_ediv_of_nonneg _ (by decide), w8_in (n := e.2.1 / 256) (by omega) (by omega)]
    unfold w8; rw [IntKind.wrap_u8]
theorem encE_len {e : Ev} (h : mE e = true) : (encE e).length ≤ 202 := by
  unfold encE
  split
  · rename_i h5
    obtain ⟨_, h2⟩ := mE_5 h h5
    rw [List.length_cons, List.length_cons, strRow_length]; omega
  · simp
def encs (l : List Ev) : List Int := l.flatMap encE
theorem encs_len : ∀ {l : List Ev}, (∀ e ∈ l, mE e = true) → (encs l).length ≤ 202 * l.length
  | [], _ => by simp [encs]
  | x :: r, h => by
    have h1 := encE_len (h x List.mem_cons_self)
    have h2 := encs_len (l := r) fun e he => h e (List.mem_cons_of_mem _ he)
    have : encs (x :: r) = encE x ++ encs r := rfl
    rw [this, List.length_append, List.length_cons]; omega
def xB (p : PPb) (a : APb) : Ev := p.l.getD (0 + a.i.toNat) e0
def hdB (p : PPb) (a : APb) (c : Bool) : List (Bool × Bool) := [(decide (a.i < p.z), true), (idR p.l p.n a.i, true), (ldR p.l a.i, true), ((xB p a).1 == 5, c)]
def apL (k : Nat) (b c : List Int) : Bool := true && (decide (k ≤ b.length) && decide (k + c.length ≤ 1000000))
def h5B (x : Ev) : List Int := [w8 x.1, w8 (x.2.2.size : Int)]
def nB (x : Ev) : List Int := [w8 x.1, w8 (Int.fdiv x.2.1 256), w8 x.2.1]
def b5 (k : Nat) (b : List Int) (x : Ev) : List Int := List.take (k + (h5B x).length) (List.drop 0 (List.take k b ++ h5B x)) ++ strRow x.2.2
theorem pb_5 (p : PPb) (a : APb) : T.path [true, true, true, true, true, true] (rdPb p a) = some (hdB p a true ++ [(apL a.k a.b (h5B (xB p a)), true), (decide (0 + (a.k + (h5B (xB p a)).length) ≤ (List.take a.k a.b ++ h5B (xB p a)).length) && decide (a.k + (h5B (xB p a)).length + (xB p a).2.2.size ≤ 1000000), true)], (.normal, FPb p ⟨IntKind.wrap .i64 (a.i + 1), a.k + (h5B (xB p a)).length + (xB p a).2.2.size, b5 a.k a.b (xB p a)⟩)) := by kernel_rfl
theorem pb_n (p : PPb) (a : APb) : T.path [true, true, true, false, false, true] (rdPb p a) = some (hdB p a false ++ [(false, false), (apL a.k a.b (nB (xB p a)), true)], (.normal, FPb p ⟨IntKind.wrap .i64 (a.i + 1), a.k + (nB (xB p a)).length, List.take a.k a.b ++ nB (xB p a)⟩)) := by kernel_rfl
theorem pb_x (p : PPb) (a : APb) : T.path [false] (rdPb p a) = some ([(decide (a.i < p.z), false)], (.exit 2, FPb p a)) := by kernel_rfl
structure okPb (p : PPb) (a : APb) : Prop where
  n : p.n ≤ p.l.length
  n1 : p.n ≤ 1000
  z : p.z = p.n
  g : ∀ e ∈ p.l.take p.n, mE e = true
  i0 : 0 ≤ a.i
  i1 : a.i ≤ p.z
  k : a.k = a.b.length
  b : a.b = encs (p.l.take a.i.toNat)
def goPb (p : PPb) (a : APb) : Bool := decide (a.i < p.z)
def muPb (p : PPb) (a : APb) : Nat := (p.z - a.i).toNat
theorem stepPb (p : PPb) (a : APb) (h : okPb p a) (hg : goPb p a = true) : ∃ b, stepC okPb rdPb FPb muPb p a b := by
  have hi : a.i < p.z := of_decide_eq_true hg
  obtain ⟨h1, h2, h3, h4, h5, h6, h7, h8⟩ := h
  have hl : a.i.toNat < p.l.length := by omega
  obtain ⟨y1, y2⟩ := idR_in (g := p.l) (k := p.n) (i := a.i) h1 h5 (by omega)
  have ex : xB p a = p.l[a.i.toNat] := getD0 rfl hl
  have hm : mE (xB p a) = true := by
    rw [ex]
    refine h4 _ ?_
    rw [List.mem_iff_getElem]
    exact ⟨a.i.toNat, by rw [List.length_take]; omega, by rw [List.getElem_take]⟩
  have hsub : ∀ e ∈ p.l.take a.i.toNat, mE e = true := fun e he => h4 e (by
    have : p.l.take a.i.toNat = (p.l.take p.n).take a.i.toNat := by rw [List.take_take, Nat.min_eq_left (by omega)]
    rw [this] at he
    exact List.mem_of_mem_take he)
  have hlen := encs_len hsub
  rw [← h8, List.length_take] at hlen
  have he := encE_len hm
  have ew : IntKind.wrap .i64 (a.i + 1) = a.i + 1 := wrap64 (by omega) (by omega)
  have tk : a.b.take a.k = a.b := by rw [h7, List.take_length]
  have nxt : ∀ b' : List Int, ∀ k' : Nat, b' = a.b ++ encE (xB p a) → k' = b'.length → okPb p ⟨a.i + 1, k', b'⟩ := fun b' k' e1 e2 => ⟨h1, h2, h3, h4, by show 0 ≤ a.i + 1; omega, by show a.i + 1 ≤ p.z; omega, e2, by
    show b' = encs (p.l.take (a.i + 1).toNat)
    rw [take_next h5 hl, e1, h8, ← ex]
    unfold encs
    rw [List.flatMap_append]
    simp⟩
  have mu : (p.z - (a.i + 1)).toNat < (p.z - a.i).toNat := by omega
  by_cases q : (xB p a).1 = 5
  · have e1 : encW (xB p a) = h5B (xB p a) ++ strRow (xB p a).2.2 := by unfold encW; rw [if_pos q]; rfl
    rw [encW_is hm] at e1
    have hz := strRow_length (xB p a).2.2
    have e2 : b5 a.k a.b (xB p a) = a.b ++ encE (xB p a) := by
      unfold b5
      rw [tk, List.drop_zero, List.take_of_length_le (by rw [List.length_append, h7]; exact Nat.le_refl _), e1, ← List.append_assoc]
    have way := pb_5 p a
    rw [ew] at way
    have hb : (h5B (xB p a)).length = 2 := rfl
    have hes : (encE (xB p a)).length = 2 + (xB p a).2.2.size := by rw [e1, List.length_append, hb, hz]
    refine ⟨_, T.path_eval way ⟨hg, y1, y2, by simpa using q, ?_, ?_, trivial⟩, nxt _ _ e2 ?_, mu⟩
    · unfold apL
      rw [decide_eq_true (show a.k ≤ a.b.length by omega), decide_eq_true (show a.k + (h5B (xB p a)).length ≤ 1000000 by omega)]; rfl
    · rw [decide_eq_true (show 0 + (a.k + (h5B (xB p a)).length) ≤ (List.take a.k a.b ++ h5B (xB p a)).length by rw [List.length_append, tk]; omega), decide_eq_true (show a.k + (h5B (xB p a)).length + (xB p a).2.2.size ≤ 1000000 by omega)]; rfl
    · show a.k + (h5B (xB p a)).length + (xB p a).2.2.size = (b5 a.k a.b (xB p a)).length
      rw [e2, List.length_append, hes]; omega
  · have e1 : encW (xB p a) = nB (xB p a) := by unfold encW; rw [if_neg q]; rfl
    rw [encW_is hm] at e1
    have way := pb_n p a
    rw [ew] at way
    have hb : (nB (xB p a)).length = 3 := rfl
    refine ⟨_, T.path_eval way ⟨hg, y1, y2, by simpa using q, rfl, ?_, trivial⟩, nxt _ _ (by rw [tk, e1]) ?_, mu⟩
    · unfold apL
      rw [decide_eq_true (show a.k ≤ a.b.length by omega), decide_eq_true (show a.k + (nB (xB p a)).length ≤ 1000000 by omega)]; rfl
    · show a.k + (nB (xB p a)).length = (List.take a.k a.b ++ nB (xB p a)).length
      rw [List.length_append, tk]; omega
theorem exPb (p : PPb) (a : APb) (h : okPb p a) (hg : goPb p a = false) : (rdPb p a).eval = some (.exit 2, FPb p a) := T.path_eval (pb_x p a) ⟨hg, trivial⟩
noncomputable def famPb : LSpec := famC [0,6,19,20,21] SPb 6000 6001 57 decPb okPb goPb rdPb FPb muPb (.exit 2)
theorem lpPb_ok : LoopOk E5 lpPb famPb := famC_ok (vs := vsPb) (bs := bsPb) E5_ok mixed (noLoops_ok _) decPb_ok (by simp) (fun _ _ => rfl) (fun _ _ => rfl) stepPb exPb
end Go.Proofs.Ytnkingfmdgjmaaa.Evt

/- Layer 23: events: their bytes: the contract. -/
namespace Go.Proofs.Ytnkingfmdgjmaaa.Evt
open Go.Eng Go.RowKit
set_option linter.unusedVariables false
set_option linter.unusedSimpArgs false
set_option maxRecDepth 100000
noncomputable def putL : Eng.Obj := execO E5 (byReg [(rgPm, famPm), (rgPb, famPb)]) 11
theorem putL_ok : ObjOk Try.prog 11 putL := execO_loops E5_ok mixed Try.func11 (by kernel_rfl) (by kernel_rfl) (two_lp (c := lpPm) (c' := lpPb) (by kernel_rfl) rgPm_is rgPb_is (by kernel_rfl) lpPm_ok lpPb_ok)
def evB (o : Bool) (l : List Ev) : Blk := .lst o 34 [.int .i64, .int .i64, .str] l
def pPm (o : Bool) (n : Nat) (l : List Ev) : PPm := ⟨o, n, n, l, (n : Int)⟩
def pPb (o : Bool) (n : Nat) (l : List Ev) : PPb := ⟨o, n, n, l, (n : Int)⟩
noncomputable def ePm (o : Bool) (n : Nat) (l : List Ev) : APm := endW (nxtC okPm goPm rdPm FPm muPm (pPm o n l)) ⟨0⟩
noncomputable def ePb (o : Bool) (n : Nat) (l : List Ev) : APb := endW (nxtC okPb goPb rdPb FPb muPb (pPb o n l)) ⟨0, 0, []⟩
def outEv (o : Bool) (l : List Ev) : Heap := bif o then [(0, evB true l)] else []
theorem put_f (o : Bool) (n : Nat) (l : List Ev) : T.path [true, true] (T.anon (putL [.sub 0 3 0 n] [(0, evB o l)])) = some ([(invC okPm (pPm o n l) ⟨0⟩, true), (decide ((ePm o n l).i < (n : Int)), true)], (.tup [.sub 5000 1 0 0, iv 1], outEv o l ++ [(5000, byBk true [])])) := by cases o <;> kernel_rfl
theorem put_n (o : Bool) (n : Nat) (l : List Ev) : T.path [true, false, true] (T.anon (putL [.sub 0 3 0 n] [(0, evB o l)])) = some ([(invC okPm (pPm o n l) ⟨0⟩, true), (decide ((ePm o n l).i < (n : Int)), false), (invC okPb (pPb o n l) ⟨0, 0, []⟩, true)], (.tup [.sub 6000 1 0 (ePb o n l).k, iv 0], outEv o l ++ [(6000, byBk true (ePb o n l).b)])) := by cases o <;> kernel_rfl
def gdP (n : Nat) (l : List Ev) : Bool := decide (n ≤ l.length) && decide (n ≤ 1000)
theorem put_end {o : Bool} {n : Nat} {l : List Ev} (h : gdP n l = true) : invC okPm (pPm o n l) ⟨0⟩ = true ∧ (decide ((ePm o n l).i < (n : Int)) = !(l.take n).all mE) := by
  unfold gdP at h
  rw [Bool.and_eq_true, decide_eq_true_eq, decide_eq_true_eq] at h
  have h0 : okPm (pPm o n l) ⟨0⟩ := ⟨h.1, h.2, rfl, Int.le_refl _, by show (0 : Int) ≤ (n : Int); omega, fun e he => by
    have he : e ∈ l.take 0 := he
    simp at he⟩
  obtain ⟨k1, k2⟩ := endC stepPm h0
  have k1 : okPm (pPm o n l) (ePm o n l) := k1
  have k2 : goPm (pPm o n l) (ePm o n l) = false := k2
  refine ⟨invC_is h0, ?_⟩
  obtain ⟨-, -, -, i0, i1, g⟩ := k1
  have i1 : (ePm o n l).i ≤ (n : Int) := i1
  have g : ∀ e ∈ l.take (ePm o n l).i.toNat, mE e = true := g
  by_cases hi : (ePm o n l).i < (n : Int)
  · have hm : mE (xM (pPm o n l) (ePm o n l)) = false := by
      unfold goPm at k2
      rw [decide_eq_true (show (ePm o n l).i < (pPm o n l).z from hi), Bool.true_and] at k2
      exact k2
    have hl : (ePm o n l).i.toNat < l.length := by omega
    have ex : xM (pPm o n l) (ePm o n l) = l[(ePm o n l).i.toNat] := getD0 rfl hl
    rw [decide_eq_true hi]
    cases hq : (l.take n).all mE with
    | false => rfl
    | true =>
      have := List.all_eq_true.1 hq (xM (pPm o n l) (ePm o n l)) (by
        rw [ex, List.mem_iff_getElem]
        exact ⟨(ePm o n l).i.toNat, by rw [List.length_take]; omega, by rw [List.getElem_take]⟩)
      rw [hm] at this; cases this
  · rw [decide_eq_false hi]
    have : (ePm o n l).i.toNat = n := by omega
    rw [this] at g
    rw [List.all_eq_true.2 g]; rfl
theorem put_end2 {o : Bool} {n : Nat} {l : List Ev} (h : gdP n l = true) (hm : (l.take n).all mE = true) : invC okPb (pPb o n l) ⟨0, 0, []⟩ = true ∧ (ePb o n l).k = (encs (l.take n)).length ∧ (ePb o n l).b = encs (l.take n) := by
  unfold gdP at h
  rw [Bool.and_eq_true, decide_eq_true_eq, decide_eq_true_eq] at h
  have h0 : okPb (pPb o n l) ⟨0, 0, []⟩ := ⟨h.1, h.2, rfl, List.all_eq_true.1 hm, Int.le_refl _, by show (0 : Int) ≤ (n : Int); omega, rfl, by
    show [] = encs (l.take 0)
    simp [encs]⟩
  obtain ⟨k1, k2⟩ := endC stepPb h0
  have k1 : okPb (pPb o n l) (ePb o n l) := k1
  have k2 : goPb (pPb o n l) (ePb o n l) = false := k2
  refine ⟨invC_is h0, ?_⟩
  obtain ⟨-, -, -, -, i0, i1, hk, hb⟩ := k1
  have i1 : (ePb o n l).i ≤ (n : Int) := i1
  have hi : ¬ (ePb o n l).i < (n : Int) := of_decide_eq_false k2
  have : (ePb o n l).i.toNat = n := by omega
  have hb : (ePb o n l).b = encs (l.take (ePb o n l).i.toNat) := hb
  rw [this] at hb
  exact ⟨by rw [hk, hb], hb⟩
def asEv (args : List V) (h : Heap) : Option (Bool × Nat × List Ev) :=
  match args, h with
  | [.sub 0 3 0 n], [(0, .lst o t [.int .i64, .int .i64, .str] l)] => if t = 34 then some (o, n, l) else none
  | _, _ => none
theorem asEv_ok {args : List V} {h : Heap} {r : Bool × Nat × List Ev} (e : asEv args h = some r) : args = [.sub 0 3 0 r.2.1] ∧ h = [(0, evB r.1 r.2.2)] := by
  unfold asEv at e
  split at e
  · obtain ⟨q, e⟩ := ite_some0 e
    subst q
    cases e; exact ⟨rfl, rfl⟩
  · cases e
noncomputable def putS : Eng.Obj := fun args h => match asEv args h with
  | some r => .ite none (gdP r.2.1 r.2.2) (.ite none ((r.2.2.take r.2.1).all mE) (.ret (.tup [.sub 6000 1 0 (encs (r.2.2.take r.2.1)).length, iv 0], outEv r.1 r.2.2 ++ [(6000, byBk true (encs (r.2.2.take r.2.1)))])) (.ret (.tup [.sub 5000 1 0 0, iv 1], outEv r.1 r.2.2 ++ [(5000, byBk true [])]))) .fail
  | none => .fail
theorem putS_ok : ObjOk Try.prog 11 putS := putL_ok.of_eval fun args h x hv => by
  unfold putS at hv
  split at hv
  · rename_i r hr
    obtain ⟨e1, e2⟩ := asEv_ok hr
    obtain ⟨o, n, l⟩ := r
    simp only at e1 e2 hv
    subst e1; subst e2
    rw [← T.eval_anon (t := putL _ _)]
    obtain ⟨hg, hv⟩ := ite_T' hv
    obtain ⟨a1, a2⟩ := put_end (o := o) hg
    cases hm : (l.take n).all mE with
    | true =>
      rw [hm] at hv
      obtain rfl := Option.some.inj hv
      obtain ⟨b1, b2, b3⟩ := put_end2 (o := o) hg hm
      rw [T.path_eval (put_n o n l) ⟨a1, by rw [a2, hm]; rfl, b1, trivial⟩, b2, b3]
    | false =>
      rw [hm] at hv
      obtain rfl := Option.some.inj hv
      rw [T.path_eval (put_f o n l) ⟨a1, by rw [a2, hm]; rfl, trivial⟩]
  · cases hv
end Go.Proofs.Ytnkingfmdgjmaaa.Evt

/- Layer 23: events and their bytes: there and back. -/
namespace Go.Proofs.Ytnkingfmdgjmaaa.Evt
open Go.Eng Go.RowKit
set_option linter.unusedVariables false
set_option linter.unusedSimpArgs false
theorem rowStr_strRow (s : ByteArray) : rowStr (strRow s) = s := by
  obtain ⟨d⟩ := s
  unfold rowStr strRow
  congr 1
  apply Array.ext'
  simp only [List.map_map]
  conv => rhs; rw [← List.map_id d.toList]
  refine List.map_congr_left fun b _ => ?_
  show UInt8.ofNat ((b.toNat : Int)).toNat = b
  simp
theorem strRow_rowStr {l : List Int} (h : byB l = true) : strRow (rowStr l) = l := by
  unfold strRow rowStr
  simp only [List.map_map]
  conv => rhs; rw [← List.map_id l]
  refine List.map_congr_left fun x hx => ?_
  have := List.all_eq_true.1 h x hx
  rw [Bool.and_eq_true, decide_eq_true_eq, decide_eq_true_eq] at this
  show ((UInt8.ofNat x.toNat).toNat : Int) = x
  rw [UInt8.toNat_ofNat']
  omega
theorem byB_strRow (s : ByteArray) : byB (strRow s) = true := by
  unfold byB strRow
  rw [List.all_eq_true]
  intro x hx
  obtain ⟨b, _, rfl⟩ := List.mem_map.1 hx
  have := b.toNat_lt
  rw [Bool.and_eq_true, decide_eq_true_eq, decide_eq_true_eq]
  omega
theorem byB_append {a b : List Int} : byB (a ++ b) = (byB a && byB b) := by unfold byB; rw [List.all_append]
theorem byB_encE {e : Ev} (h : mE e = true) : byB (encE e) = true := by
  unfold encE
  split
  · rename_i h5
    obtain ⟨_, h2⟩ := mE_5 h h5
    show (decide ((0 : Int) ≤ 5) && decide ((5 : Int) < 256) && ((decide ((0 : Int) ≤ (e.2.2.size : Int)) && decide ((e.2.2.size : Int) < 256)) && byB (strRow e.2.2))) = true
    rw [byB_strRow, decide_eq_true (show (0 : Int) ≤ (e.2.2.size : Int) by omega), decide_eq_true (show (e.2.2.size : Int) < 256 by omega)]; rfl
  · rename_i h5
    obtain ⟨_, h2, h3, h4⟩ := mE_n h h5
    unfold byB
    rw [List.all_eq_true]
    intro x hx
    rw [Bool.and_eq_true, decide_eq_true_eq, decide_eq_true_eq]
    simp only [List.mem_cons, List.not_mem_nil, or_false] at hx
    omega
theorem byB_encs : ∀ {l : List Ev}, l.all mE = true → byB (encs l) = true
  | [], _ => rfl
  | x :: r, h => by
    rw [List.all_cons, Bool.and_eq_true] at h
    show byB (encE x ++ encs r) = true
    rw [byB_append, byB_encE h.1, byB_encs h.2]; rfl
theorem noS_is {s : ByteArray} (h : noS s = true) : s = ⟨#[]⟩ := by
  unfold noS at h
  have h := beq_iff_eq.1 h
  rw [ByteArray.toList_eq, ByteArray.toList_eq] at h
  obtain ⟨d⟩ := s
  congr 1
  apply Array.ext'
  exact h
/-- what is written is read -/
theorem red_encE {e : Ev} (h : mE e = true) (r : List Int) : red (encE e ++ r) = some (e, ((encE e).length : Int)) := by
  obtain ⟨k, n, s⟩ := e
  by_cases h5 : k = 5
  · obtain ⟨h1, h2⟩ := mE_5 h h5
    subst h5
    have h1 : n = 0 := h1
    subst h1
    have e1 : encE (5, 0, s) = 5 :: (s.size : Int) :: strRow s := by unfold encE; rw [if_pos rfl]
    have hl := strRow_length s
    rw [e1]
    unfold red txt
    have g0 : (5 :: (s.size : Int) :: strRow s ++ r).getD 0 0 = 5 := rfl
    have g1 : (5 :: (s.size : Int) :: strRow s ++ r).getD 1 0 = (s.size : Int) := rfl
    have g2 : (5 :: (s.size : Int) :: strRow s ++ r).drop 2 = strRow s ++ r := rfl
    have g3 : (5 :: (s.size : Int) :: strRow s ++ r).length = 2 + s.size + r.length := by simp [hl]; omega
    rw [if_pos g0, g1, g2, g3, if_pos ⟨by omega, by omega⟩, Option.filter_some]
    have e2 : List.take ((s.size : Int).toNat) (strRow s ++ r) = strRow s := by
      rw [show (s.size : Int).toNat = (strRow s).length by rw [hl]; rfl]; exact List.take_left
    rw [e2, rowStr_strRow]
    rw [if_pos (show mayE 5 0 s = true from h)]
    congr 2
    simp [hl]; omega
  · obtain ⟨h1, h2, h3, h4⟩ := mE_n h h5
    have hs := noS_is h1
    have hs : s = ⟨#[]⟩ := hs
    subst hs
    have h3 : 0 ≤ n := h3
    have h4 : n ≤ 999 := h4
    have e1 : encE (k, n, ⟨#[]⟩) = [k, n / 256, n % 256] := by unfold encE; rw [if_neg h5]
    rw [e1]
    unfold red num
    have g0 : ([k, n / 256, n % 256] ++ r).getD 0 0 = k := rfl
    have g1 : ([k, n / 256, n % 256] ++ r).getD 1 0 = n / 256 := rfl
    have g2 : ([k, n / 256, n % 256] ++ r).getD 2 0 = n % 256 := rfl
    rw [g0, if_neg h5, if_pos (by simp), g1, g2, show n / 256 * 256 + n % 256 = n by omega, Option.filter_some, if_pos (show mayE k n ⟨#[]⟩ = true from h)]
    rfl
/-- what is read was written so -/
theorem red_back {l : List Int} (hb : byB l = true) {e : Ev × Int} (h : red l = some e) : mE e.1 = true ∧ encE e.1 = l.take e.2.toNat := by
  unfold red at h
  by_cases q : l.getD 0 0 = 5
  · rw [if_pos q] at h
    obtain ⟨h1, h2⟩ := Option.filter_eq_some_iff.1 h
    refine ⟨h2, ?_⟩
    unfold txt at h1
    split at h1
    · rename_i hc
      obtain rfl := Option.some.inj h1
      obtain ⟨b0, b1⟩ := byB_get hb 1
      match l, hc, q, hb with
      | x :: y :: t, hc, q, hb =>
        have q : x = 5 := q
        subst q
        have hy : ((5 : Int) :: y :: t).getD 1 0 = y := rfl
        rw [hy] at b0 b1 hc
        have hl : y.toNat ≤ t.length := by have := hc.2; simp at this; omega
        have ht : byB (List.take y.toNat t) = true := by
          unfold byB at *
          rw [List.all_eq_true] at *
          exact fun z hz => hb z (List.mem_cons_of_mem _ (List.mem_cons_of_mem _ (List.mem_of_mem_take hz)))
        show encE (5, 0, rowStr (List.take y.toNat t)) = List.take (2 + y).toNat (5 :: y :: t)
        have hz : (rowStr (List.take y.toNat t)).size = y.toNat := by
          have := strRow_length (rowStr (List.take y.toNat t))
          rw [strRow_rowStr ht, List.length_take] at this
          omega
        unfold encE
        rw [if_pos rfl]
        show 5 :: ((rowStr (List.take y.toNat t)).size : Int) :: strRow (rowStr (List.take y.toNat t)) = _
        rw [strRow_rowStr ht, hz, show (2 + y).toNat = y.toNat + 1 + 1 by omega, List.take_succ_cons, List.take_succ_cons]
        congr 2
        omega
      | [], hc, _, _ => simp at hc
      | [x], hc, _, _ => simp at hc
    · cases h1
  · rw [if_neg q] at h
    obtain ⟨x, hx, rfl⟩ := Option.map_eq_some_iff.1 h
    obtain ⟨h1, h2⟩ := Option.filter_eq_some_iff.1 hx
    refine ⟨h2, ?_⟩
    unfold num at h1
    split at h1
    · rename_i hc
      obtain rfl := Option.some.inj h1
      match l, hc, q, hb with
      | x :: y :: z :: t, hc, q, hb =>
        have q : ¬ x = 5 := q
        obtain ⟨b0, b1⟩ := byB_get hb 1
        obtain ⟨c0, c1⟩ := byB_get hb 2
        have b0 : 0 ≤ y := b0
        have b1 : y < 256 := b1
        have c0 : 0 ≤ z := c0
        have c1 : z < 256 := c1
        show encE (x, y * 256 + z, ⟨#[]⟩) = [x, y, z]
        unfold encE
        rw [if_neg q]
        show [x, (y * 256 + z) / 256, (y * 256 + z) % 256] = [x, y, z]
        rw [show (y * 256 + z) / 256 = y by omega, show (y * 256 + z) % 256 = z by omega]
      | [], hc, _, _ => simp at hc
      | [x], hc, _, _ => simp at hc
      | [x, y], hc, _, _ => simp at hc
    · cases h1
theorem encE_pos (e : Ev) : encE e ≠ [] := by unfold encE; split <;> simp
/-- reading on: what is read stands in the bytes -/
theorem allG_ok : ∀ (f : Nat) (b : List Int) (x : Int) (l : List Ev) (c : List Int), byB b = true → byB c = true → b.length < f → 0 ≤ x → x.toNat ≤ c.length → b = c.drop x.toNat → encs l = c.take x.toNat → l.all mE = true →
    (allG f b x l).1.all mE = true ∧ match (allG f b x l).2 with
      | none => encs (allG f b x l).1 = c
      | some y => 0 ≤ y ∧ y.toNat < c.length ∧ encs (allG f b x l).1 = c.take y.toNat ∧ red (c.drop y.toNat) = none
  | 0, b, x, l, c, _, _, hf, _, _, _, _, _ => absurd hf (Nat.not_lt_zero _)
  | f + 1, b, x, l, c, hb, hc, hf, h0, hx, hd, he, hm => by
    unfold allG
    by_cases q : b = []
    · rw [if_pos q]
      refine ⟨hm, ?_⟩
      show encs l = c
      rw [he]
      refine List.take_of_length_le ?_
      rw [q] at hd
      have := congrArg List.length hd
      rw [List.length_drop] at this
      simp at this; omega
    · rw [if_neg q]
      cases hr : red b with
      | none =>
        refine ⟨hm, h0, ?_, he, hd ▸ hr⟩
        have : 0 < b.length := List.length_pos_iff.2 q
        rw [hd, List.length_drop] at this; omega
      | some e =>
        obtain ⟨z0, z1⟩ := red_size hb hr
        obtain ⟨r1, r2⟩ := red_back hb hr
        have hl : b.length = c.length - x.toNat := by rw [hd, List.length_drop]
        refine allG_ok f (b.drop e.2.toNat) (x + e.2) (l ++ [e.1]) c (byB_drop hb _) hc (by rw [List.length_drop]; omega) (by omega) (by omega) ?_ ?_ ?_
        · rw [hd, List.drop_drop, show x.toNat + e.2.toNat = (x + e.2).toNat by omega]
        · unfold encs at *
          rw [List.flatMap_append, he]
          simp only [List.flatMap_cons, List.flatMap_nil, List.append_nil]
          rw [r2, hd, show (x + e.2).toNat = x.toNat + e.2.toNat by omega, List.take_add]
        · rw [List.all_append, hm]
          simp [r1]
theorem allR_ok {b : List Int} (hb : byB b = true) : (allR b).1.all mE = true ∧ match (allR b).2 with
      | none => encs (allR b).1 = b
      | some y => 0 ≤ y ∧ y.toNat < b.length ∧ encs (allR b).1 = b.take y.toNat ∧ red (b.drop y.toNat) = none :=
  allG_ok (b.length + 1) b 0 [] b hb hb (Nat.lt_succ_self _) (Int.le_refl _) (Nat.zero_le _) rfl (by simp [encs]) rfl
/-- two runs of events whose bytes go on alike are alike -/
theorem encs_pre : ∀ {y m : List Ev}, y.all mE = true → m.all mE = true → (∃ t, encs m = encs y ++ t) → y.length ≤ m.length ∧ m.take y.length = y
  | [], m, _, _, _ => ⟨Nat.zero_le _, rfl⟩
  | e :: y, [], hy, hm, ⟨t, ht⟩ => by
    exfalso
    have h1 : encE e ++ encs y ++ t = [] := ht.symm
    exact encE_pos e (List.append_eq_nil_iff.1 (List.append_eq_nil_iff.1 h1).1).1
  | e :: y, f :: m, hy, hm, ⟨t, ht⟩ => by
    rw [List.all_cons, Bool.and_eq_true] at hy hm
    have ht : encE f ++ encs m = encE e ++ encs y ++ t := ht
    have r1 := red_encE hm.1 (encs m)
    have r2 := red_encE hy.1 (encs y ++ t)
    rw [ht, List.append_assoc, r2] at r1
    have ef : e = f := congrArg Prod.fst (Option.some.inj r1)
    subst ef
    rw [List.append_assoc] at ht
    have ht := List.append_cancel_left ht
    obtain ⟨h1, h2⟩ := encs_pre hy.2 hm.2 ⟨t, ht⟩
    exact ⟨by simp; omega, by simp [h2]⟩
theorem encs_inj {y m : List Ev} (hy : y.all mE = true) (hm : m.all mE = true) (h : encs y = encs m) : y = m := by
  obtain ⟨h1, h2⟩ := encs_pre hy hm ⟨[], by rw [List.append_nil, h]⟩
  obtain ⟨h3, _⟩ := encs_pre hm hy ⟨[], by rw [List.append_nil, h]⟩
  rw [← h2, show y.length = m.length by omega, List.take_length]
theorem allR_encs {m : List Ev} (hm : m.all mE = true) : allR (encs m) = (m, none) := by
  obtain ⟨h1, h2⟩ := allR_ok (byB_encs hm)
  cases hr : (allR (encs m)).2 with
  | none =>
    rw [hr] at h2
    exact Prod.ext (encs_inj h1 hm h2) hr
  | some y =>
    exfalso
    rw [hr] at h2
    obtain ⟨y0, y1, y2, y3⟩ := h2
    obtain ⟨p1, p2⟩ := encs_pre h1 hm ⟨(encs m).drop y.toNat, by rw [y2, List.take_append_drop]⟩
    have e1 : encs m = encs (allR (encs m)).1 ++ encs (m.drop (allR (encs m)).1.length) := by
      conv => lhs; rw [← List.take_append_drop (allR (encs m)).1.length m, p2]
      unfold encs; rw [List.flatMap_append]
    have e2 : (encs m).drop y.toNat = encs (m.drop (allR (encs m)).1.length) := by
      conv at e1 => lhs; rw [← List.take_append_drop y.toNat (encs m)]
      rw [← y2] at e1
      exact List.append_cancel_left e1
    rw [e2] at y3
    have hl : 0 < (encs (m.drop (allR (encs m)).1.length)).length := by rw [← e2, List.length_drop]; omega
    cases hd : m.drop (allR (encs m)).1.length with
    | nil => rw [hd] at hl; simp [encs] at hl
    | cons f t =>
      rw [hd] at y3
      have hf : mE f = true := List.all_eq_true.1 hm f (List.mem_of_mem_drop (by rw [hd]; exact List.mem_cons_self))
      rw [show encs (f :: t) = encE f ++ encs t from rfl, red_encE hf] at y3
      cases y3
end Go.Proofs.Ytnkingfmdgjmaaa.Evt

/- Layer 23: few events; events that are alike; the document's bytes: loops. -/
namespace Go.Proofs.Ytnkingfmdgjmaaa.Evt
open Go.Eng Go.RowKit
set_option linter.unusedVariables false
set_option linter.unusedSimpArgs false
set_option maxRecDepth 100000
noncomputable def E6 : Cfg := ⟨Try.prog, lookG [], [34], 0⟩
theorem E6_ok : E6.Ok := Cfg.ok trivial ⟨⟨by kernel_rfl, by kernel_rfl⟩, trivial⟩
noncomputable def E7 : Cfg := ⟨Try.prog, lookG [(15, .val mayS)], [], 0⟩
theorem E7_ok : E7.Ok := Cfg.ok ⟨refmay_ok, trivial⟩ trivial
noncomputable def lpFw : Code := loopAt Try.prog 14 0
structure PFw where (n : Nat) (l : List Ev) (m : Int)
structure AFw where (i : Int)
abbrev SFw : List (Nat × Src) := [(0, .same)]
def vsFw (p : PFw) (a : AFw) : List V := [.sub 0 3 0 p.n, iv p.m, iv a.i]
def bsFw (p : PFw) (a : AFw) : List Blk := [.lst false 34 [.int .i64, .int .i64, .str] p.l]
noncomputable def FFw (p : PFw) (a : AFw) : St := mkSt [0,1,5] (keysR SFw) 3000 23 (vsFw p a) (bsFw p a)
abbrev SFwx : List (Nat × Src) := [(0, .same)]
noncomputable def rdFw (p : PFw) (a : AFw) : T (Ex × St) := T.anon (roundX E6 noLoops lpFw [0,1,5] SFw [0,1,4] SFwx 3000 3000 (mkSt [0,1,5] (keysR SFw) 3000 23 (vsFw p a) (bsFw p a)))
def decFw_v0 : V → Option ((Nat))
  | .sub 0 3 0 n => some (n)
  | _ => none
theorem decFw_v0_ok (b : V) (x0 : (Nat)) (h : decFw_v0 b = some x0) : b = .sub 0 3 0 (x0) := by
  unfold decFw_v0 at h
  split at h
  · cases h
    rfl
  · cases h
def decFw_v1 : V → Option ((Int))
  | .s (.int .i64 m) => some (m)
  | _ => none
theorem decFw_v1_ok (b : V) (x1 : (Int)) (h : decFw_v1 b = some x1) : b = iv (x1) := by
  unfold decFw_v1 at h
  split at h
  · cases h
    rfl
  · cases h
def decFw_v2 : V → Option ((Int))
  | .s (.int .i64 i) => some (i)
  | _ => none
theorem decFw_v2_ok (b : V) (x2 : (Int)) (h : decFw_v2 b = some x2) : b = iv (x2) := by
  unfold decFw_v2 at h
  split at h
  · cases h
    rfl
  · cases h
def decFw_b0 : Blk → Option ((List Ev))
  | .lst false tt0 [.int .i64, .int .i64, .str] l => if tt0 = 34 then some (l) else none
  | _ => none
theorem decFw_b0_ok (b : Blk) (y0 : (List Ev)) (h : decFw_b0 b = some y0) : b = .lst false 34 [.int .i64, .int .i64, .str] (y0) := by
  unfold decFw_b0 at h
  split at h
  · obtain ⟨e0, h⟩ := ite_some0 h
    subst e0
    cases h
    rfl
  · cases h
def decFw : List V → List Blk → Option (PFw × AFw)
  | [v0, v1, v2], [b0] => (decFw_v0 v0).bind fun x0 => (decFw_v1 v1).bind fun x1 => (decFw_v2 v2).bind fun x2 => (decFw_b0 b0).bind fun y0 => some (⟨(x0), (y0), (x1)⟩, ⟨(x2)⟩)
  | _, _ => none
theorem decFw_ok (l : List V) (b : List Blk) (d : PFw × AFw) (h : decFw l b = some d) : l = vsFw d.1 d.2 ∧ b = bsFw d.1 d.2 := by
  unfold decFw at h
  split at h
  · obtain ⟨x0, hx0, h⟩ := Option.bind_eq_some_iff.1 h
    obtain ⟨x1, hx1, h⟩ := Option.bind_eq_some_iff.1 h
    obtain ⟨x2, hx2, h⟩ := Option.bind_eq_some_iff.1 h
    obtain ⟨y0, hy0, h⟩ := Option.bind_eq_some_iff.1 h
    have ex0 := decFw_v0_ok _ _ hx0
    have ex1 := decFw_v1_ok _ _ hx1
    have ex2 := decFw_v2_ok _ _ hx2
    have ey0 := decFw_b0_ok _ _ hy0
    cases h
    subst ex0 ex1 ex2 ey0
    exact ⟨rfl, rfl⟩
  · cases h
noncomputable def rgFw : Nat := (firstReg lpFw).getD 0
theorem rgFw_is : firstReg lpFw = some rgFw := by kernel_rfl
noncomputable def lpEq : Code := loopAt Try.prog 19 0
structure PEq where (n : Nat) (k : Nat) (a : List Ev) (b : List Ev)
structure AEq where (i : Int)
abbrev SEq : List (Nat × Src) := [(0, .same), (1, .same)]
def vsEq (p : PEq) (a : AEq) : List V := [.sub 0 3 0 p.n, .sub 1 3 0 p.k, iv a.i]
def bsEq (p : PEq) (a : AEq) : List Blk := [.lst false 34 [.int .i64, .int .i64, .str] p.a, .lst false 34 [.int .i64, .int .i64, .str] p.b]
noncomputable def FEq (p : PEq) (a : AEq) : St := mkSt [0,1,5] (keysR SEq) 3000 26 (vsEq p a) (bsEq p a)
abbrev SEqx : List (Nat × Src) := [(0, .same), (1, .same)]
noncomputable def rdEq (p : PEq) (a : AEq) : T (Ex × St) := T.anon (roundX E6 noLoops lpEq [0,1,5] SEq [4] SEqx 3000 3000 (mkSt [0,1,5] (keysR SEq) 3000 26 (vsEq p a) (bsEq p a)))
def decEq_v0 : V → Option ((Nat))
  | .sub 0 3 0 n => some (n)
  | _ => none
theorem decEq_v0_ok (b : V) (x0 : (Nat)) (h : decEq_v0 b = some x0) : b = .sub 0 3 0 (x0) := by
  unfold decEq_v0 at h
  split at h
  · cases h
    rfl
  · cases h
def decEq_v1 : V → Option ((Nat))
  | .sub 1 3 0 k => some (k)
  | _ => none
theorem decEq_v1_ok (b : V) (x1 : (Nat)) (h : decEq_v1 b = some x1) : b = .sub 1 3 0 (x1) := by
  unfold decEq_v1 at h
  split at h
  · cases h
    rfl
  · cases h
def decEq_v2 : V → Option ((Int))
  | .s (.int .i64 i) => some (i)
  | _ => none
theorem decEq_v2_ok (b : V) (x2 : (Int)) (h : decEq_v2 b = some x2) : b = iv (x2) := by
  unfold decEq_v2 at h
  split at h
  · cases h
    rfl
  · cases h
def decEq_b0 : Blk → Option ((List Ev))
  | .lst false tt0 [.int .i64, .int .i64, .str] a => if tt0 = 34 then some (a) else none
  | _ => none
theorem decEq_b0_ok (b : Blk) (y0 : (List Ev)) (h : decEq_b0 b = some y0) : b = .lst false 34 [.int .i64, .int .i64, .str] (y0) := by
  unfold decEq_b0 at h
  split at h
  · obtain ⟨e0, h⟩ := ite_some0 h
    subst e0
    cases h
    rfl
  · cases h
def decEq_b1 : Blk → Option ((List Ev))
  | .lst false tt0 [.int .i64, .int .i64, .str] b => if tt0 = 34 then some (b) else none
  | _ => none
theorem decEq_b1_ok (b : Blk) (y1 : (List Ev)) (h : decEq_b1 b = some y1) : b = .lst false 34 [.int .i64, .int .i64, .str] (y1) := by
  unfold decEq_b1 at h
  split at h
  · obtain ⟨e0, h⟩ := ite_some0 h
    subst e0
    cases h
    rfl
  · cases h
def decEq : List V → List Blk → Option (PEq × AEq)
  | [v0, v1, v2], [b0, b1] => (decEq_v0 v0).bind fun x0 => (decEq_v1 v1).bind fun x1 => (decEq_v2 v2).bind fun x2 => (decEq_b0 b0).bind fun y0 => (decEq_b1 b1).bind fun y1 => some (⟨(x0), (x1), (y0), (y1)⟩, ⟨(x2)⟩)
  | _, _ => none
theorem decEq_ok (l : List V) (b : List Blk) (d : PEq × AEq) (h : decEq l b = some d) : l = vsEq d.1 d.2 ∧ b = bsEq d.1 d.2 := by
  unfold decEq at h
  split at h
  · obtain ⟨x0, hx0, h⟩ := Option.bind_eq_some_iff.1 h
    obtain ⟨x1, hx1, h⟩ := Option.bind_eq_some_iff.1 h
    obtain ⟨x2, hx2, h⟩ := Option.bind_eq_some_iff.1 h
    obtain ⟨y0, hy0, h⟩ := Option.bind_eq_some_iff.1 h
    obtain ⟨y1, hy1, h⟩ := Option.bind_eq_some_iff.1 h
    have ex0 := decEq_v0_ok _ _ hx0
    have ex1 := decEq_v1_ok _ _ hx1
    have ex2 := decEq_v2_ok _ _ hx2
    have ey0 := decEq_b0_ok _ _ hy0
    have ey1 := decEq_b1_ok _ _ hy1
    cases h
    subst ex0 ex1 ex2 ey0 ey1
    exact ⟨rfl, rfl⟩
  · cases h
noncomputable def rgEq : Nat := (firstReg lpEq).getD 0
theorem rgEq_is : firstReg lpEq = some rgEq := by kernel_rfl
noncomputable def lpRp : Code := loopAt Try.prog 16 0
structure PRp where (n : Nat) (l : List Ev)
structure ARp where (s : ByteArray) (i : Int)
abbrev SRp : List (Nat × Src) := [(0, .same)]
def vsRp (p : PRp) (a : ARp) : List V := [.sub 0 3 0 p.n, .s (.str a.s), iv a.i]
def bsRp (p : PRp) (a : ARp) : List Blk := [.lst false 34 [.int .i64, .int .i64, .str] p.l]
noncomputable def FRp (p : PRp) (a : ARp) : St := mkSt [0,4,5] (keysR SRp) 3000 52 (vsRp p a) (bsRp p a)
abbrev SRpx : List (Nat × Src) := [(0, .same)]
noncomputable def rdRp (p : PRp) (a : ARp) : T (Ex × St) := T.anon (roundX E7 noLoops lpRp [0,4,5] SRp [2,3,4] SRpx 3000 3000 (mkSt [0,4,5] (keysR SRp) 3000 52 (vsRp p a) (bsRp p a)))
def decRp_v0 : V → Option ((Nat))
  | .sub 0 3 0 n => some (n)
  | _ => none
theorem decRp_v0_ok (b : V) (x0 : (Nat)) (h : decRp_v0 b = some x0) : b = .sub 0 3 0 (x0) := by
  unfold decRp_v0 at h
  split at h
  · cases h
    rfl
  · cases h
def decRp_v1 : V → Option ((ByteArray))
  | .s (.str s) => some (s)
  | _ => none
theorem decRp_v1_ok (b : V) (x1 : (ByteArray)) (h : decRp_v1 b = some x1) : b = .s (.str (x1)) := by
  unfold decRp_v1 at h
  split at h
  · cases h
    rfl
  · cases h
def decRp_v2 : V → Option ((Int))
  | .s (.int .i64 i) => some (i)
  | _ => none
theorem decRp_v2_ok (b : V) (x2 : (Int)) (h : decRp_v2 b = some x2) : b = iv (x2) := by
  unfold decRp_v2 at h
  split at h
  · cases h
    rfl
  · cases h
def decRp_b0 : Blk → Option ((List Ev))
  | .lst false tt0 [.int .i64, .int .i64, .str] l => if tt0 = 34 then some (l) else none
  | _ => none
theorem decRp_b0_ok (b : Blk) (y0 : (List Ev)) (h : decRp_b0 b = some y0) : b = .lst false 34 [.int .i64, .int .i64, .str] (y0) := by
  unfold decRp_b0 at h
  split at h
  · obtain ⟨e0, h⟩ := ite_some0 h
    subst e0
    cases h
    rfl
  · cases h
def decRp : List V → List Blk → Option (PRp × ARp)
  | [v0, v1, v2], [b0] => (decRp_v0 v0).bind fun x0 => (decRp_v1 v1).bind fun x1 => (decRp_v2 v2).bind fun x2 => (decRp_b0 b0).bind fun y0 => some (⟨(x0), (y0)⟩, ⟨(x1), (x2)⟩)
  | _, _ => none
theorem decRp_ok (l : List V) (b : List Blk) (d : PRp × ARp) (h : decRp l b = some d) : l = vsRp d.1 d.2 ∧ b = bsRp d.1 d.2 := by
  unfold decRp at h
  split at h
  · obtain ⟨x0, hx0, h⟩ := Option.bind_eq_some_iff.1 h
    obtain ⟨x1, hx1, h⟩ := Option.bind_eq_some_iff.1 h
    obtain ⟨x2, hx2, h⟩ := Option.bind_eq_some_iff.1 h
    obtain ⟨y0, hy0, h⟩ := Option.bind_eq_some_iff.1 h
    have ex0 := decRp_v0_ok _ _ hx0
    have ex1 := decRp_v1_ok _ _ hx1
    have ex2 := decRp_v2_ok _ _ hx2
    have ey0 := decRp_b0_ok _ _ hy0
    cases h
    subst ex0 ex1 ex2 ey0
    exact ⟨rfl, rfl⟩
  · cases h
noncomputable def rgRp : Nat := (firstReg lpRp).getD 0
theorem rgRp_is : firstReg lpRp = some rgRp := by kernel_rfl
noncomputable def lpRa : Code := loopAt Try.prog 18 0
structure PRa where (s : ByteArray)
structure ARa where (x : Int) (k : Nat) (l : List Ev)
abbrev SRa : List (Nat × Src) := [(4000, .tmp 5)]
def vsRa (p : PRa) (a : ARa) : List V := [.s (.str p.s), .sub 4000 3 0 a.k, iv a.x]
def bsRa (p : PRa) (a : ARa) : List Blk := [.lst true 34 [.int .i64, .int .i64, .str] a.l]
noncomputable def FRa (p : PRa) (a : ARa) : St := mkSt [0,5,6] (keysR SRa) 4001 77 (vsRa p a) (bsRa p a)
abbrev SRax : List (Nat × Src) := [(4000, .tmp 5)]
noncomputable def rdRa (p : PRa) (a : ARa) : T (Ex × St) := T.anon (roundX E7 noLoops lpRa [0,5,6] SRa [2,3,4,5] SRax 4000 4001 (mkSt [0,5,6] (keysR SRa) 4001 77 (vsRa p a) (bsRa p a)))
def decRa_v0 : V → Option ((ByteArray))
  | .s (.str s) => some (s)
  | _ => none
theorem decRa_v0_ok (b : V) (x0 : (ByteArray)) (h : decRa_v0 b = some x0) : b = .s (.str (x0)) := by
  unfold decRa_v0 at h
  split at h
  · cases h
    rfl
  · cases h
def decRa_v1 : V → Option ((Nat))
  | .sub 4000 3 0 k => some (k)
  | _ => none
theorem decRa_v1_ok (b : V) (x1 : (Nat)) (h : decRa_v1 b = some x1) : b = .sub 4000 3 0 (x1) := by
  unfold decRa_v1 at h
  split at h
  · cases h
    rfl
  · cases h
def decRa_v2 : V → Option ((Int))
  | .s (.int .i64 x) => some (x)
  | _ => none
theorem decRa_v2_ok (b : V) (x2 : (Int)) (h : decRa_v2 b = some x2) : b = iv (x2) := by
  unfold decRa_v2 at h
  split at h
  · cases h
    rfl
  · cases h
def decRa_b0 : Blk → Option ((List Ev))
  | .lst true tt0 [.int .i64, .int .i64, .str] l => if tt0 = 34 then some (l) else none
  | _ => none
theorem decRa_b0_ok (b : Blk) (y0 : (List Ev)) (h : decRa_b0 b = some y0) : b = .lst true 34 [.int .i64, .int .i64, .str] (y0) := by
  unfold decRa_b0 at h
  split at h
  · obtain ⟨e0, h⟩ := ite_some0 h
    subst e0
    cases h
    rfl
  · cases h
def decRa : List V → List Blk → Option (PRa × ARa)
  | [v0, v1, v2], [b0] => (decRa_v0 v0).bind fun x0 => (decRa_v1 v1).bind fun x1 => (decRa_v2 v2).bind fun x2 => (decRa_b0 b0).bind fun y0 => some (⟨(x0)⟩, ⟨(x2), (x1), (y0)⟩)
  | _, _ => none
theorem decRa_ok (l : List V) (b : List Blk) (d : PRa × ARa) (h : decRa l b = some d) : l = vsRa d.1 d.2 ∧ b = bsRa d.1 d.2 := by
  unfold decRa at h
  split at h
  · obtain ⟨x0, hx0, h⟩ := Option.bind_eq_some_iff.1 h
    obtain ⟨x1, hx1, h⟩ := Option.bind_eq_some_iff.1 h
    obtain ⟨x2, hx2, h⟩ := Option.bind_eq_some_iff.1 h
    obtain ⟨y0, hy0, h⟩ := Option.bind_eq_some_iff.1 h
    have ex0 := decRa_v0_ok _ _ hx0
    have ex1 := decRa_v1_ok _ _ hx1
    have ex2 := decRa_v2_ok _ _ hx2
    have ey0 := decRa_b0_ok _ _ hy0
    cases h
    subst ex0 ex1 ex2 ey0
    exact ⟨rfl, rfl⟩
  · cases h
noncomputable def rgRa : Nat := (firstReg lpRa).getD 0
theorem rgRa_is : firstReg lpRa = some rgRa := by kernel_rfl
end Go.Proofs.Ytnkingfmdgjmaaa.Evt

/- Layer 23: few events; events that are alike: contracts. -/
namespace Go.Proofs.Ytnkingfmdgjmaaa.Evt
open Go.Eng Go.RowKit
set_option linter.unusedVariables false
set_option linter.unusedSimpArgs false
set_option maxRecDepth 100000
def xF (p : PFw) (a : AFw) : Ev := p.l.getD (0 + a.i.toNat) e0
def big (e : Ev) : Bool := decide ((300 : Int) < (e.2.2.size : Int))
def hdF (p : PFw) (a : AFw) (c : Bool) : List (Bool × Bool) := [(decide (a.i < (p.n : Int)), true), (idR p.l p.n a.i, true), (ldR p.l a.i, true), (big (xF p a), c)]
def stF (p : PFw) (a : AFw) (v : V) : St := mkSt [0, 1, 4] [0] 3000 23 [.sub 0 3 0 p.n, iv p.m, v] (bsFw p a)
theorem fw_n (p : PFw) (a : AFw) : T.path [true, true, true, false] (rdFw p a) = some (hdF p a false, (.normal, FFw p ⟨IntKind.wrap .i64 (a.i + 1)⟩)) := by kernel_rfl
theorem fw_f (p : PFw) (a : AFw) : T.path [true, true, true, true] (rdFw p a) = some (hdF p a true, (.ret, stF p a (.s (.bool false)))) := by kernel_rfl
theorem fw_x (p : PFw) (a : AFw) : T.path [false] (rdFw p a) = some ([(decide (a.i < (p.n : Int)), false)], (.exit 0, stF p a .junk)) := by kernel_rfl
structure okFw (p : PFw) (a : AFw) : Prop where
  n : p.n = p.l.length
  n1 : p.n ≤ 9223372036854775807
  i0 : 0 ≤ a.i
  i1 : a.i ≤ (p.n : Int)
  g : ∀ e ∈ p.l.take a.i.toNat, big e = false
def goFw (p : PFw) (a : AFw) : Bool := decide (a.i < (p.n : Int)) && !big (xF p a)
def muFw (p : PFw) (a : AFw) : Nat := (p.n - a.i).toNat
theorem fw_hd {p : PFw} {a : AFw} (h : okFw p a) (hi : a.i < (p.n : Int)) {c : Bool} (hc : big (xF p a) = c) : allSay (hdF p a c) := by
  obtain ⟨y1, y2⟩ := idR_is (g := p.l) (k := p.n) (i := a.i) h.n h.i0 hi
  exact ⟨decide_eq_true hi, y1, y2, hc, trivial⟩
theorem stepFw (p : PFw) (a : AFw) (h : okFw p a) (hg : goFw p a = true) : ∃ b, stepC okFw rdFw FFw muFw p a b := by
  unfold goFw at hg
  rw [Bool.and_eq_true, decide_eq_true_eq, Bool.not_eq_true'] at hg
  obtain ⟨hi, hm⟩ := hg
  have hd := fw_hd h hi hm
  obtain ⟨h1, h2, h4, h5, h6⟩ := h
  have hl : a.i.toNat < p.l.length := by omega
  have way := fw_n p a
  rw [wrap64 (n := a.i + 1) (by omega) (by omega)] at way
  refine ⟨_, T.path_eval way hd, ⟨h1, h2, by show 0 ≤ a.i + 1; omega, by show a.i + 1 ≤ (p.n : Int); omega, ?_⟩, by show (p.n - (a.i + 1)).toNat < (p.n - a.i).toNat; omega⟩
  show ∀ e ∈ p.l.take (a.i + 1).toNat, big e = false
  rw [take_next h4 hl]
  intro e he
  rcases List.mem_append.1 he with q | q
  · exact h6 e q
  · have := List.mem_singleton.1 q
    rw [this, ← getD0 (d := e0) (i := a.i) rfl hl]
    exact hm
def outFw (p : PFw) (a : AFw) : T (Ex × St) := .ite none (decide (a.i < (p.n : Int))) (.ret (.ret, stF p a (.s (.bool false)))) (.ret (.exit 0, stF p a .junk))
theorem exFw (p : PFw) (a : AFw) (h : okFw p a) (hg : goFw p a = false) (r : Ex × St) (hr : (outFw p a).eval = some r) : r.1 ≠ .normal ∧ (rdFw p a).eval = some r := by
  unfold outFw at hr
  by_cases hi : a.i < (p.n : Int)
  · have hm : big (xF p a) = true := by
      unfold goFw at hg
      rw [decide_eq_true hi, Bool.true_and, Bool.not_eq_false'] at hg
      exact hg
    rw [decide_eq_true hi] at hr
    obtain rfl := Option.some.inj hr
    exact ⟨by simp, T.path_eval (fw_f p a) (fw_hd h hi hm)⟩
  · rw [decide_eq_false hi] at hr
    obtain rfl := Option.some.inj hr
    exact ⟨by simp, T.path_eval (fw_x p a) ⟨decide_eq_false hi, trivial⟩⟩
noncomputable def famFw : LSpec := famE [0,1,5] SFw SFwx 3000 3000 23 decFw okFw goFw rdFw FFw muFw outFw
theorem lpFw_ok : LoopOk E6 lpFw famFw := famE_ok (vs := vsFw) (bs := bsFw) E6_ok mixed (noLoops_ok _) decFw_ok (fun _ _ => rfl) (fun _ _ => rfl) stepFw exFw
noncomputable def fewX : Eng.Spec := execS E6 (byReg [(rgFw, famFw)]) 14
theorem fewX_ok : SpecOk Try.prog 14 fewX := execS_loops E6_ok mixed Try.func14 (by kernel_rfl) (by kernel_rfl) (one_lp (by kernel_rfl) rgFw_is lpFw_ok)
def rowE (l : List Ev) : V := .orow 34 [.int .i64, .int .i64, .str] l
noncomputable def eFw (l : List Ev) (m : Int) : AFw := endW (nxtC okFw goFw rdFw FFw muFw ⟨l.length, l, m⟩) ⟨0⟩
theorem few_f (l : List Ev) (m : Int) : T.path [true, true] (T.anon (fewX [rowE l, iv m])) = some ([(invC okFw ⟨l.length, l, m⟩ ⟨0⟩, true), (decide ((eFw l m).i < (l.length : Int)), true)], .s (.bool false)) := by kernel_rfl
theorem few_n (l : List Ev) (m : Int) : T.path [true, false] (T.anon (fewX [rowE l, iv m])) = some ([(invC okFw ⟨l.length, l, m⟩ ⟨0⟩, true), (decide ((eFw l m).i < (l.length : Int)), false)], .s (.bool (decide ((l.length : Int) ≤ m)))) := by kernel_rfl
def few (l : List Ev) (m : Int) : Bool := l.all (fun e => !big e) && decide ((l.length : Int) ≤ m)
theorem few_run {l : List Ev} {m : Int} (h : l.length ≤ 9223372036854775807) : (fewX [rowE l, iv m]).eval = some (.s (.bool (few l m))) := by
  rw [← T.eval_anon (t := fewX _)]
  have h0 : okFw ⟨l.length, l, m⟩ ⟨0⟩ := ⟨rfl, h, Int.le_refl _, by show (0 : Int) ≤ (l.length : Int); omega, fun e he => by
    have he : e ∈ l.take 0 := he
    simp at he⟩
  obtain ⟨k1, k2⟩ := endC stepFw h0
  have k1 : okFw ⟨l.length, l, m⟩ (eFw l m) := k1
  have k2 : goFw ⟨l.length, l, m⟩ (eFw l m) = false := k2
  obtain ⟨-, -, i0, i1, g⟩ := k1
  have i1 : (eFw l m).i ≤ (l.length : Int) := i1
  have g : ∀ e ∈ l.take (eFw l m).i.toNat, big e = false := g
  unfold few
  by_cases hi : (eFw l m).i < (l.length : Int)
  · have hm : big (xF ⟨l.length, l, m⟩ (eFw l m)) = true := by
      unfold goFw at k2
      rw [decide_eq_true (show (eFw l m).i < ((PFw.n ⟨l.length, l, m⟩ : Nat) : Int) from hi), Bool.true_and, Bool.not_eq_false'] at k2
      exact k2
    have hl : (eFw l m).i.toNat < l.length := by omega
    have ex : xF ⟨l.length, l, m⟩ (eFw l m) = l[(eFw l m).i.toNat] := getD0 rfl hl
    rw [T.path_eval (few_f l m) ⟨invC_is h0, decide_eq_true hi, trivial⟩]
    have : l.all (fun e => !big e) = false := by
      rw [List.all_eq_false]
      exact ⟨_, List.getElem_mem hl, by rw [← ex, hm]; simp⟩
    rw [this]; rfl
  · have : (eFw l m).i.toNat = l.length := by omega
    rw [this, List.take_length] at g
    rw [T.path_eval (few_n l m) ⟨invC_is h0, decide_eq_false hi, trivial⟩]
    have : l.all (fun e => !big e) = true := List.all_eq_true.2 fun e he => by rw [g e he]; rfl
    rw [this]; rfl
def fewS : Eng.Spec
  | [.orow t [.int .i64, .int .i64, .str] l, .s (.int .i64 m)] => if t = 34 then .ite none (decide (List.length l ≤ 9223372036854775807)) (.ret (.s (.bool (few l m)))) .fail else .fail
  | _ => .fail
theorem few_ok : SpecOk Try.prog 14 fewS := fewX_ok.of_den fun args v hfl h => by
  clear hfl
  unfold fewS at h
  split at h
  · rename_i t l m
    split at h
    · rename_i ht
      subst ht
      obtain ⟨hb, h⟩ := ite_T' h
      obtain rfl := Option.some.inj h
      exact ⟨_, few_run (of_decide_eq_true hb), ⟨rfl, rfl⟩, rfl⟩
    · cases h
  · cases h
/-! ### alike? -/
def alk (x y : Ev) : Bool := x.1 == y.1 && (x.2.1 == y.2.1 && (x.2.2.toList == y.2.2.toList && true))
theorem alk_is {x y : Ev} : alk x y = true ↔ x = y := by
  unfold alk
  simp only [Bool.and_eq_true, beq_iff_eq, and_true, ByteArray.toList_eq]
  constructor
  · rintro ⟨h1, h2, h3⟩
    have h3 : x.2.2 = y.2.2 := ByteArray.ext (Array.ext' h3)
    exact Prod.ext h1 (Prod.ext h2 h3)
  · rintro rfl
    exact ⟨rfl, rfl, rfl⟩
def xA' (p : PEq) (a : AEq) : Ev := p.a.getD (0 + a.i.toNat) e0
def xB' (p : PEq) (a : AEq) : Ev := p.b.getD (0 + a.i.toNat) e0
def hdQ (p : PEq) (a : AEq) (c : Bool) : List (Bool × Bool) := [(decide (a.i < (p.n : Int)), true), (idR p.a p.n a.i, true), (ldR p.a a.i, true), (idR p.b p.k a.i, true), (ldR p.b a.i, true), (!alk (xA' p a) (xB' p a), c)]
def stQ (p : PEq) (a : AEq) (v : V) : St := mkSt [4] [0, 1] 3000 26 [v] (bsEq p a)
theorem eq_n (p : PEq) (a : AEq) : T.path [true, true, true, true, true, false] (rdEq p a) = some (hdQ p a false, (.normal, FEq p ⟨IntKind.wrap .i64 (a.i + 1)⟩)) := by kernel_rfl
theorem eq_f (p : PEq) (a : AEq) : T.path [true, true, true, true, true, true] (rdEq p a) = some (hdQ p a true, (.ret, stQ p a (.s (.bool false)))) := by kernel_rfl
theorem eq_x (p : PEq) (a : AEq) : T.path [false] (rdEq p a) = some ([(decide (a.i < (p.n : Int)), false)], (.exit 0, stQ p a .junk)) := by kernel_rfl
structure okEq (p : PEq) (a : AEq) : Prop where
  n : p.n = p.a.length
  k : p.k = p.b.length
  nk : p.n = p.k
  n1 : p.n ≤ 1000000
  i0 : 0 ≤ a.i
  i1 : a.i ≤ (p.n : Int)
  g : p.a.take a.i.toNat = p.b.take a.i.toNat
def goEq (p : PEq) (a : AEq) : Bool := decide (a.i < (p.n : Int)) && alk (xA' p a) (xB' p a)
def muEq (p : PEq) (a : AEq) : Nat := (p.n - a.i).toNat
theorem eq_hd {p : PEq} {a : AEq} (h : okEq p a) (hi : a.i < (p.n : Int)) {c : Bool} (hc : (!alk (xA' p a) (xB' p a)) = c) : allSay (hdQ p a c) := by
  obtain ⟨y1, y2⟩ := idR_is (g := p.a) (k := p.n) (i := a.i) h.n h.i0 hi
  obtain ⟨z1, z2⟩ := idR_is (g := p.b) (k := p.k) (i := a.i) h.k h.i0 (by have := h.nk; omega)
  exact ⟨decide_eq_true hi, y1, y2, z1, z2, hc, trivial⟩
theorem stepEq (p : PEq) (a : AEq) (h : okEq p a) (hg : goEq p a = true) : ∃ b, stepC okEq rdEq FEq muEq p a b := by
  unfold goEq at hg
  rw [Bool.and_eq_true, decide_eq_true_eq] at hg
  obtain ⟨hi, hm⟩ := hg
  have hd := eq_hd h hi (c := false) (by rw [hm]; rfl)
  obtain ⟨h1, h2, h3, h4, h5, h6, h7⟩ := h
  have hl : a.i.toNat < p.a.length := by omega
  have hl' : a.i.toNat < p.b.length := by omega
  have way := eq_n p a
  rw [wrap64 (n := a.i + 1) (by omega) (by omega)] at way
  refine ⟨_, T.path_eval way hd, ⟨h1, h2, h3, h4, by show 0 ≤ a.i + 1; omega, by show a.i + 1 ≤ (p.n : Int); omega, ?_⟩, by show (p.n - (a.i + 1)).toNat < (p.n - a.i).toNat; omega⟩
  show p.a.take (a.i + 1).toNat = p.b.take (a.i + 1).toNat
  rw [take_next h5 hl, take_next h5 hl', h7]
  have := alk_is.1 hm
  rw [show xA' p a = p.a[a.i.toNat] from getD0 rfl hl, show xB' p a = p.b[a.i.toNat] from getD0 rfl hl'] at this
  rw [this]
def outEq (p : PEq) (a : AEq) : T (Ex × St) := .ite none (decide (a.i < (p.n : Int))) (.ret (.ret, stQ p a (.s (.bool false)))) (.ret (.exit 0, stQ p a .junk))
theorem exEq (p : PEq) (a : AEq) (h : okEq p a) (hg : goEq p a = false) (r : Ex × St) (hr : (outEq p a).eval = some r) : r.1 ≠ .normal ∧ (rdEq p a).eval = some r := by
  unfold outEq at hr
  by_cases hi : a.i < (p.n : Int)
  · have hm : alk (xA' p a) (xB' p a) = false := by
      unfold goEq at hg
      rw [decide_eq_true hi, Bool.true_and] at hg
      exact hg
    rw [decide_eq_true hi] at hr
    obtain rfl := Option.some.inj hr
    exact ⟨by simp, T.path_eval (eq_f p a) (eq_hd h hi (by rw [hm]; rfl))⟩
  · rw [decide_eq_false hi] at hr
    obtain rfl := Option.some.inj hr
    exact ⟨by simp, T.path_eval (eq_x p a) ⟨decide_eq_false hi, trivial⟩⟩
noncomputable def famEq : LSpec := famE [0,1,5] SEq SEqx 3000 3000 26 decEq okEq goEq rdEq FEq muEq outEq
theorem lpEq_ok : LoopOk E6 lpEq famEq := famE_ok (vs := vsEq) (bs := bsEq) E6_ok mixed (noLoops_ok _) decEq_ok (fun _ _ => rfl) (fun _ _ => rfl) stepEq exEq
noncomputable def eqX : Eng.Spec := execS E6 (byReg [(rgEq, famEq)]) 19
theorem eqX_ok : SpecOk Try.prog 19 eqX := execS_loops E6_ok mixed Try.func19 (by kernel_rfl) (by kernel_rfl) (one_lp (by kernel_rfl) rgEq_is lpEq_ok)
noncomputable def eEq (a b : List Ev) : AEq := endW (nxtC okEq goEq rdEq FEq muEq ⟨a.length, b.length, a, b⟩) ⟨0⟩
theorem eq_w1 (a b : List Ev) : T.path [true] (T.anon (eqX [rowE a, rowE b])) = some ([((a.length : Int) != (b.length : Int), true)], .ff) := by kernel_rfl
theorem eq_w2 (a b : List Ev) : T.path [false, true, true] (T.anon (eqX [rowE a, rowE b])) = some ([((a.length : Int) != (b.length : Int), false), (invC okEq ⟨a.length, b.length, a, b⟩ ⟨0⟩, true), (decide ((eEq a b).i < (a.length : Int)), true)], .s (.bool false)) := by kernel_rfl
theorem eq_w3 (a b : List Ev) : T.path [false, true, false] (T.anon (eqX [rowE a, rowE b])) = some ([((a.length : Int) != (b.length : Int), false), (invC okEq ⟨a.length, b.length, a, b⟩ ⟨0⟩, true), (decide ((eEq a b).i < (a.length : Int)), false)], .tt) := by kernel_rfl
def eqL (a b : List Ev) : Bool := decide (a = b)
theorem eq_run {a b : List Ev} (h : a.length ≤ 1000000) : ∃ v, (eqX [rowE a, rowE b]).eval = some v ∧ flat v = true ∧ v.den nu0 = .bool (eqL a b) := by
  rw [← T.eval_anon (t := eqX _)]
  unfold eqL
  by_cases hl : a.length = b.length
  · have h0 : okEq ⟨a.length, b.length, a, b⟩ ⟨0⟩ := ⟨rfl, rfl, hl, h, Int.le_refl _, by show (0 : Int) ≤ (a.length : Int); omega, rfl⟩
    obtain ⟨k1, k2⟩ := endC stepEq h0
    have k1 : okEq ⟨a.length, b.length, a, b⟩ (eEq a b) := k1
    have k2 : goEq ⟨a.length, b.length, a, b⟩ (eEq a b) = false := k2
    obtain ⟨-, -, -, -, i0, i1, g⟩ := k1
    have i1 : (eEq a b).i ≤ (a.length : Int) := i1
    have g : a.take (eEq a b).i.toNat = b.take (eEq a b).i.toNat := g
    have hne : ((a.length : Int) != (b.length : Int)) = false := by rw [hl]; simp
    by_cases hi : (eEq a b).i < (a.length : Int)
    · have hm : alk (xA' ⟨a.length, b.length, a, b⟩ (eEq a b)) (xB' ⟨a.length, b.length, a, b⟩ (eEq a b)) = false := by
        unfold goEq at k2
        rw [decide_eq_true (show (eEq a b).i < ((PEq.n ⟨a.length, b.length, a, b⟩ : Nat) : Int) from hi), Bool.true_and] at k2
        exact k2
      have hl1 : (eEq a b).i.toNat < a.length := by omega
      have hl2 : (eEq a b).i.toNat < b.length := by omega
      refine ⟨_, T.path_eval (eq_w2 a b) ⟨hne, invC_is h0, decide_eq_true hi, trivial⟩, rfl, ?_⟩
      rw [decide_eq_false]
      · rfl
      · rintro rfl
        rw [show xB' ⟨a.length, a.length, a, a⟩ (eEq a a) = xA' ⟨a.length, a.length, a, a⟩ (eEq a a) from rfl, alk_is.2 rfl] at hm
        cases hm
    · refine ⟨_, T.path_eval (eq_w3 a b) ⟨hne, invC_is h0, decide_eq_false hi, trivial⟩, rfl, ?_⟩
      have e : (eEq a b).i.toNat = a.length := by omega
      rw [e, List.take_length, hl, List.take_length] at g
      rw [decide_eq_true g]; rfl
  · refine ⟨_, T.path_eval (eq_w1 a b) ⟨by simp; omega, trivial⟩, rfl, ?_⟩
    rw [decide_eq_false fun e => hl (by rw [e])]; rfl
def eqS : Eng.Spec
  | [.orow t [.int .i64, .int .i64, .str] a, .orow t' [.int .i64, .int .i64, .str] b] => if t = 34 ∧ t' = 34 then .ite none (decide (List.length a ≤ 1000000)) (.ret (.s (.bool (eqL a b)))) .fail else .fail
  | _ => .fail
theorem eq_ok : SpecOk Try.prog 19 eqS := eqX_ok.of_den fun args v hfl h => by
  clear hfl
  unfold eqS at h
  split at h
  · rename_i t a t' b
    split at h
    · rename_i ht
      obtain ⟨ht, ht'⟩ := ht
      subst ht; subst ht'
      obtain ⟨hb, h⟩ := ite_T' h
      obtain rfl := Option.some.inj h
      obtain ⟨v, h1, h2, h3⟩ := eq_run (a := a) (b := b) (of_decide_eq_true hb)
      exact ⟨v, h1, ⟨h2, rfl⟩, h3⟩
    · cases h
  · cases h
end Go.Proofs.Ytnkingfmdgjmaaa.Evt

