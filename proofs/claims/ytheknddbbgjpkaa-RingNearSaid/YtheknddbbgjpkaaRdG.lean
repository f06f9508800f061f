/- Layer 5: the ring beside the document's: what both hold. -/
import Derived.Test.YtheknddbbgjpkaaRdF
namespace Go.Proofs.Ytheknddbbgjpkaa.Rin
open Go.Eng Go.RowKit Mil
set_option linter.unusedVariables false
set_option linter.unusedSimpArgs false
/-- a record's bucket -/
def recB (g : Int) (l : List TV) : List Rec := l.map fun x => (Int.tdiv x.1 g, x.2)
theorem recB_app {g : Int} {l : List TV} {x : TV} : recB g (l ++ [x]) = recB g l ++ [(Int.tdiv x.1 g, x.2)] := by unfold recB; rw [List.map_append]; rfl
theorem recB_filter (g : Int) (f : Int → Bool) : ∀ l : List TV, (recB g l).filter (fun p => f p.1) = recB g (l.filter fun x => f (Int.tdiv x.1 g))
  | [] => rfl
  | x :: r => by
    have ih := recB_filter g f r
    unfold recB at ih ⊢
    simp only [List.map_cons, List.filter_cons]
    cases h : f (Int.tdiv x.1 g) with
    | true => simp only [ite_true, List.map_cons]; rw [ih]
    | false => simp only [Bool.false_eq_true, ite_false]; exact ih
theorem recB_sv (g : Int) : ∀ l : List TV, sv (recB g l) = sv l
  | [] => rfl
  | x :: r => by
    have ih := recB_sv g r
    unfold recB at ih ⊢
    rw [List.map_cons, sv_cons, sv_cons, ih]
theorem recB_len (g : Int) (l : List TV) : (recB g l).length = l.length := List.length_map _
/-- what lies behind the window may be left out -/
theorem RepR.drop {n : Nat} {nw : Int} {l : List OB} {rs : List Rec} (h : RepR n nw l rs) : RepR n nw l (rs.filter fun p => decide (nw - p.1 < n)) where
  n0 := h.n0
  n1 := h.n1
  w0 := h.w0
  w1 := h.w1
  ln := h.ln
  recs := fun p hp => h.recs p (List.mem_filter.1 hp).1
  len := Nat.le_trans (List.length_filter_le _ _) h.len
  cells := fun b b0 b1 b2 => by
    rw [h.cells b b0 b1 b2]
    congr 1
    unfold bk
    rw [List.filter_filter]
    apply List.filter_congr
    intro x hx
    by_cases hxb : x.1 = b
    · rw [show decide (nw - x.1 < (n : Int)) = true from decide_eq_true (by omega), Bool.and_true]
    · simp [hxb]
structure BothR (s : RS) (d : DS) (m : Nat) : Prop where
  h : HoldsR s (recB d.g d.l)
  w : s.w = d.w
  g : s.g = d.g
  nw : s.nw = d.nw
  ov : s.ov = d.ov
  n : d.n = d.l.length
  ok : OkD d.w d.g d.nw d.l
  inw : ∀ x ∈ d.l, kpD d.w d.g d.nw x = true
  len : d.l.length ≤ m
theorem BothR.new {w g : Int} (h1 : 1 ≤ g) (h2 : g ≤ w) (h3 : w ≤ 600) : BothR (RS.new w g) ⟨w, g, 0, -1, false, []⟩ 0 :=
  ⟨HoldsR.new h1 h2 h3, rfl, rfl, rfl, rfl, rfl, ⟨h1, h2, h3, Int.le_refl _, by show (-1 : Int) ≤ _; omega, Nat.zero_le _, fun x hx => (by cases hx)⟩, fun x hx => (by cases hx), Nat.le_refl _⟩
theorem BothR.gs {s : RS} {d : DS} {m : Nat} (b : BothR s d m) : s.n = nN d.w d.g := by rw [b.h.sn, b.w, b.g]
theorem BothR.tl {s : RS} {d : DS} {m : Nat} (b : BothR s d m) : allSay (tlP s d) := by
  have n0 := b.h.rep.n0
  have g1 := b.ok.g1
  have e1 : (s.w != d.w) = false := by rw [b.w]; simp
  have e2 : decide (0 < (s.n : Int)) = true := decide_eq_true (by omega)
  refine ⟨e2, e1, by rw [beq_eq_false_iff_ne]; omega, ?_, trivial⟩
  unfold difB
  rw [e1, e2, nnI_is b.ok.g1 b.ok.g2 b.ok.w1, b.gs, b.ov]
  simp
theorem BothR.mono {s : RS} {d : DS} {m : Nat} (b : BothR s d m) : BothR s d (m + 1) := ⟨b.h, b.w, b.g, b.nw, b.ov, b.n, b.ok, b.inw, by have := b.len; omega⟩
/-- 5.1: what is put -/
theorem BothR.put {s : RS} {d : DS} {m : Nat} (b : BothR s d m) (hm : m < 10000) {t v : Int} (t0 : 0 ≤ t) (t1 : t ≤ 1099511627776) (v0 : 0 ≤ v) (v1 : v ≤ 9223372036854775807) :
    allSay (putC s t v) ∧ ((decide ((nN d.w d.g : Nat) ≤ d.nw - Int.tdiv t d.g) = true ∧ allSay (putDC d t v true) ∧ BothR (s.put t v) d m) ∨ (decide ((nN d.w d.g : Nat) ≤ d.nw - Int.tdiv t d.g) = false ∧ allSay (putDC d t v false) ∧ BothR (s.put t v) (d.put t v) (m + 1))) := by
  have hl := b.len
  obtain ⟨c1, hp⟩ := b.h.put t0 t1 v0 v1 (by rw [recB_len]; omega)
  have ba : badA t v = false := badA_false.2 ⟨t0, t1, v0⟩
  have gd : pB (gdD d.w d.g d.n d.nw d.l t v) = true := pB_is ⟨b.ok, b.n, by omega, v1⟩
  have hn := b.gs
  have eg : Int.tdiv t s.g = Int.tdiv t d.g := by rw [b.g]
  have n0 := b.h.rep.n0
  refine ⟨c1, ?_⟩
  rw [eg, b.nw, hn] at hp
  rw [hn] at n0
  have ew : (s.put t v).nw = mxR d.nw (Int.tdiv t d.g) := by show mxR s.nw (Int.tdiv t s.g) = _; rw [eg, b.nw]
  cases hq : decide ((nN d.w d.g : Nat) ≤ d.nw - Int.tdiv t d.g) with
  | true =>
    refine .inl ⟨rfl, ⟨ba, gd, hq, trivial⟩, ?_⟩
    have hq := of_decide_eq_true hq
    have em : mxR d.nw (Int.tdiv t d.g) = d.nw := mxR_l (by omega)
    rw [putRs_out (by rw [em]; omega)] at hp
    exact ⟨hp, b.w, b.g, by rw [ew, em], b.ov, b.n, b.ok, b.inw, hl⟩
  | false =>
    refine .inr ⟨rfl, ⟨ba, gd, hq, trivial⟩, ?_⟩
    have hq := of_decide_eq_false hq
    have em : mxR d.nw (Int.tdiv t d.g) - (nN d.w d.g : Nat) < Int.tdiv t d.g := by unfold mxR; split <;> omega
    rw [putRs_in em] at hp
    have ek : keepD d.w d.g d.n (mxR d.nw (Int.tdiv t d.g)) d.l (t, v) = (d.l ++ [(t, v)]).filter (kpD d.w d.g (mxR d.nw (Int.tdiv t d.g))) := by unfold keepD; rw [b.n, List.take_length]
    obtain ⟨z1, z2⟩ := okD_app b.ok b.n (by omega) t0 t1 v0 v1
    rw [b.n, List.take_length] at z1
    have dr := hp.rep.drop
    rw [ew] at dr
    have e3 : (s.put t v).n = nN d.w d.g := hn
    rw [e3, show recB d.g d.l ++ [(Int.tdiv t d.g, v)] = recB d.g (d.l ++ [(t, v)]) from (recB_app (g := d.g) (l := d.l) (x := (t, v))).symm, recB_filter d.g (fun z => decide (mxR d.nw (Int.tdiv t d.g) - z < (nN d.w d.g : Nat)))] at dr
    have lf : ((d.l ++ [(t, v)]).filter (kpD d.w d.g (mxR d.nw (Int.tdiv t d.g)))).length ≤ d.l.length + 1 := by
      have := List.length_filter_le (kpD d.w d.g (mxR d.nw (Int.tdiv t d.g))) (d.l ++ [(t, v)])
      rw [List.length_append] at this; exact this
    refine ⟨⟨?_, hp.g1, hp.g2, hp.w1, hp.sn⟩, b.w, b.g, ew, b.ov, rfl, ?_, ?_, ?_⟩
    · show RepR (s.put t v).n (s.put t v).nw (s.put t v).l (recB d.g (keepD d.w d.g d.n (mxR d.nw (Int.tdiv t d.g)) d.l (t, v)))
      rw [ek, ew, e3]; exact dr
    · show OkD d.w d.g (mxR d.nw (Int.tdiv t d.g)) (keepD d.w d.g d.n (mxR d.nw (Int.tdiv t d.g)) d.l (t, v))
      rw [ek]
      exact ⟨z1.g1, z1.g2, z1.w1, z1.n0, z1.n1, Nat.le_trans (List.length_filter_le _ _) z1.ln, fun x hx => z1.el x (List.mem_filter.1 hx).1⟩
    · intro x hx
      have hx : x ∈ keepD d.w d.g d.n (mxR d.nw (Int.tdiv t d.g)) d.l (t, v) := hx
      rw [ek] at hx
      exact (List.mem_filter.1 hx).2
    · show (keepD d.w d.g d.n (mxR d.nw (Int.tdiv t d.g)) d.l (t, v)).length ≤ m + 1
      rw [ek]; omega
/-- 5.3: another window -/
theorem BothR.res {s : RS} {d : DS} {m : Nat} (b : BothR s d m) (hm : m < 10000) {x : Int} (x0 : d.g ≤ x) (x1 : x ≤ 600) :
    allSay (resC s x) ∧ (OkD x d.g d.nw d.l ∧ d.n = d.l.length) ∧ BothR (s.res x) (d.res x) m := by
  obtain ⟨c1, hp⟩ := b.h.res (x := x) (by rw [b.g]; exact x0) x1
  have k := b.ok
  have okx : OkD x d.g d.nw d.l := ⟨k.g1, x0, x1, k.n0, k.n1, k.ln, k.el⟩
  refine ⟨c1, ⟨okx, b.n⟩, ?_⟩
  have e0 : (recB d.g d.l).filter (fun p => decide (s.nw - s.n < p.1)) = recB d.g d.l := by
    rw [List.filter_eq_self]
    intro p hp
    obtain ⟨y, hy, rfl⟩ := List.mem_map.1 hp
    have := of_decide_eq_true (b.inw y hy)
    rw [b.nw, b.gs]
    exact decide_eq_true (by show _ < Int.tdiv y.1 d.g; omega)
  rw [e0] at hp
  have dr := hp.rep.drop
  have e3 : (s.res x).n = nN x d.g := by show nN x s.g = _; rw [b.g]
  have ew : (s.res x).nw = d.nw := b.nw
  rw [e3, ew, recB_filter d.g (fun z => decide (d.nw - z < (nN x d.g : Nat)))] at dr
  refine ⟨⟨?_, hp.g1, hp.g2, hp.w1, hp.sn⟩, rfl, b.g, b.nw, b.ov, rfl, ?_, ?_, ?_⟩
  · rw [e3, ew]; exact dr
  · exact ⟨k.g1, x0, x1, k.n0, k.n1, Nat.le_trans (List.length_filter_le _ _) k.ln, fun y hy => k.el y (List.mem_filter.1 hy).1⟩
  · intro y hy; exact (List.mem_filter.1 hy).2
  · exact Nat.le_trans (List.length_filter_le _ _) b.len
/-- 5.2: what is summed -/
theorem BothR.sum {s : RS} {d : DS} {m : Nat} (b : BothR s d m) {t : Int} (t0 : 0 ≤ t) (t1 : t ≤ 9223372036854775807) :
    allSay (sumC s t) ∧ allSay (okDC d t) ∧ (s.sumA t).s = smS d t ∧ (s.sumA t).c = smN d t ∧ BothR (s.sum t) (d.sum t) m := by
  obtain ⟨c1, hp, hs⟩ := b.h.sum t0 t1
  obtain ⟨s1, s2, s3⟩ := smV_s hs
  have eg : Int.tdiv t s.g = Int.tdiv t d.g := by rw [b.g]
  have ew : wn (frR s.n s.nw (Int.tdiv t s.g)) (Int.tdiv t s.g + 1) (recB d.g d.l) = recB d.g (wD d.w d.g t d.l) := by
    rw [eg, b.nw, b.gs]
    unfold wn
    rw [recB_filter d.g (fun z => decide (frR (nN d.w d.g) d.nw (Int.tdiv t d.g) ≤ z) && decide (z < Int.tdiv t d.g + 1))]
    congr 1
    unfold wD
    apply List.filter_congr
    intro x hx
    have k := of_decide_eq_true (b.inw x hx)
    obtain ⟨y1, y2, _⟩ := b.ok.el x hx
    obtain ⟨q1, q2⟩ := tdiv_bd y1 b.ok.g1
    unfold inD
    rw [Bool.eq_iff_iff]
    simp only [Bool.and_eq_true, decide_eq_true_eq]
    unfold frR mxR
    constructor
    · intro h
      refine ⟨t0, ?_, ?_⟩
      · omega
      · have := h.1
        split at this <;> split at this <;> omega
    · intro h
      refine ⟨?_, by omega⟩
      split <;> split <;> omega
  rw [ew, recB_sv] at s1 s3
  rw [ew, recB_len] at s2
  refine ⟨c1, ⟨pB_is ⟨b.ok, b.n, t1⟩, trivial⟩, s1, s2, ⟨hp, b.w, b.g, b.nw, ?_, b.n, b.ok, b.inw, b.len⟩⟩
  show (bif s.ov then true else (s.sumA t).k) = (d.ov || decide (tpI < sv (wD d.w d.g t d.l)))
  rw [b.ov, s3]; cases d.ov <;> rfl
theorem BothR.neg {s : RS} {d : DS} {m : Nat} (b : BothR s d m) {t : Int} (t0 : t < 0) :
    allSay (okDC d t) ∧ smS d t = 0 ∧ smN d t = 0 ∧ BothR s (d.sum t) m := by
  have e : wD d.w d.g t d.l = [] := wD_neg (by omega)
  refine ⟨⟨pB_is ⟨b.ok, b.n, by omega⟩, trivial⟩, ?_, ?_, ⟨b.h, b.w, b.g, b.nw, ?_, b.n, b.ok, b.inw, b.len⟩⟩
  · unfold smS; rw [e]; rfl
  · unfold smN; rw [e]; rfl
  · show s.ov = (d.ov || decide (tpI < sv (wD d.w d.g t d.l)))
    rw [e, b.ov, show decide (tpI < sv []) = false from rfl, Bool.or_false]
end Go.Proofs.Ytheknddbbgjpkaa.Rin
