/- Layer 5: RingPlays: its rounds. -/
import Derived.Test.YtheknddbbgjpkaaRdG
import Derived.Test.YtheknddbbgjpkaaLaw5
namespace Go.Proofs.Ytheknddbbgjpkaa.Rin
open Go.Eng Go.RowKit Mil
set_option linter.unusedVariables false
set_option linter.unusedSimpArgs false
def sOf (a : ARp) : RS := ⟨a.w, a.g, a.n, a.nw, a.ov, a.l⟩
def dOf (a : ARp) : DS := ⟨a.wd, a.gd, a.nd, a.nwd, a.ovd, a.ld⟩
structure okRp (p : PRp) (a : ARp) : Prop where
  n : p.q = p.o.length
  n1 : p.q ≤ 120
  wf : ∀ x ∈ p.o, (Lit.int .i64 x.1).wf = true ∧ (Lit.int .i64 x.2.1).wf = true ∧ (Lit.int .i64 x.2.2.1).wf = true ∧ (Lit.int .i64 x.2.2.2).wf = true
  i0 : 0 ≤ a.i
  i1 : a.i ≤ p.q
  b : BothR (sOf a) (dOf a) a.i.toNat
def goRp (p : PRp) (a : ARp) : Bool := decide (a.i < (p.q : Int))
def muRp (p : PRp) (a : ARp) : Nat := (p.q - a.i).toNat
theorem neZ (z : Int) : (z != z) = false := by simp
theorem cmS_eq {d : DS} {t a b : Int} (h1 : a = smS d t) (h2 : b = smN d t) : cmS a b d t = false := by
  unfold cmS; rw [h1, h2, neZ, neZ]; rfl
theorem BothR.up {s : RS} {d : DS} {m k : Nat} (b : BothR s d m) (h : m ≤ k) : BothR s d k := ⟨b.h, b.w, b.g, b.nw, b.ov, b.n, b.ok, b.inw, by have := b.len; omega⟩
theorem stepRp (p : PRp) (a : ARp) (h : okRp p a) (hg : goRp p a = true) : ∃ b, stepC okRp rdRp FRp muRp p a b := by
  obtain ⟨hn, hn1, hwf, i0, i1, hb⟩ := h
  have hi : a.i < (p.q : Int) := of_decide_eq_true hg
  have hw : IntKind.wrap .i64 (a.i + 1) = a.i + 1 := wrap64_in (by omega) (by omega)
  obtain ⟨r1, r2⟩ := idR_is (g := p.o) (k := p.q) (i := a.i) hn i0 hi
  have hlt : a.i.toNat < p.o.length := by omega
  have hx : xO p.o a.i = p.o[a.i.toNat] := getD0 rfl hlt
  obtain ⟨_, f2, f3, f4⟩ := hwf _ (List.getElem_mem hlt)
  rw [← hx] at f2 f3 f4
  have t1 := (wf64 f3).2
  have v1 := (wf64 f4).2
  have hH : allSay (hdP p a.i) := ⟨hg, r1, r2, trivial⟩
  have fin : ∀ s d, BothR s d (a.i.toNat + 1) → okRp p (stP s d (IntKind.wrap .i64 (a.i + 1))) ∧ muRp p (stP s d (IntKind.wrap .i64 (a.i + 1))) < muRp p a := by
    intro s d b
    have e : (stP s d (IntKind.wrap .i64 (a.i + 1))).i = a.i + 1 := hw
    refine ⟨⟨hn, hn1, hwf, by rw [e]; omega, by rw [e]; omega, ?_⟩, ?_⟩
    · show BothR s d (IntKind.wrap .i64 (a.i + 1)).toNat
      rw [hw, show (a.i + 1).toNat = a.i.toNat + 1 by omega]; exact b
    · show (p.q - IntKind.wrap .i64 (a.i + 1)).toNat < (p.q - a.i).toNat
      rw [hw]; omega
  have hm : a.i.toNat < 10000 := by omega
  have hn0 : decide (0 < (sOf a).n) = true := decide_eq_true hb.h.rep.n0
  have go : ∀ {c : List (Bool × Bool)} {ch : List Bool} {s d}, T.path ch (rdRp p (stP (sOf a) (dOf a) a.i)) = some (c, (.normal, FRp p (stP s d (IntKind.wrap .i64 (a.i + 1))))) → allSay c → BothR s d (a.i.toNat + 1) → ∃ b, stepC okRp rdRp FRp muRp p a b := by
    intro c ch s d hp hc b
    obtain ⟨k1, k2⟩ := fin s d b
    exact ⟨_, T.path_eval hp hc, k1, k2⟩
  generalize hxx : xO p.o a.i = x at *
  obtain ⟨x1, x2, t, v⟩ := x
  have w1 := wayRp1 p (sOf a) (dOf a) a.i
  have w2 := wayRp2 p (sOf a) (dOf a) a.i
  have w3 := wayRp3 p (sOf a) (dOf a) a.i
  have w4 := wayRp4 p (sOf a) (dOf a) a.i
  have w5 := wayRp5 p (sOf a) (dOf a) a.i
  have w6 := wayRp6 p (sOf a) (dOf a) a.i
  have w7 := wayRp7 p (sOf a) (dOf a) a.i
  rw [hxx] at w1 w2 w3 w4 w5 w6 w7
  have e11 : ((1 : Int) != 1) = false := rfl
  have e00 : ((0 : Int) != 0) = false := rfl
  have gE : badX x2 (sOf a).g = badX x2 (dOf a).g := by rw [hb.g]
  cases k5 : decide (kO (x1, x2, t, v) < 5) with
  | true =>
    cases ba : badA t v with
    | true => exact go w1 (allSay_append hH (allSay_append ⟨k5, hn0, ba, ba, e11, trivial⟩ hb.tl)) hb.mono
    | false =>
      obtain ⟨t0, t2, v0⟩ := badA_false.1 ba
      obtain ⟨c1, q⟩ := hb.put hm t0 t2 v0 v1
      rcases q with ⟨_, c2, b⟩ | ⟨_, c2, b⟩
      · exact go w2 (allSay_append hH ⟨k5, allSay_append c1 (allSay_append c2 ⟨e00, b.tl⟩)⟩) b.mono
      · exact go w3 (allSay_append hH ⟨k5, allSay_append c1 (allSay_append c2 ⟨e00, b.tl⟩)⟩) b
  | false =>
    cases k7 : decide (kO (x1, x2, t, v) < 7) with
    | true =>
      cases tn : decide (t < 0) with
      | true =>
        have tn' := of_decide_eq_true tn
        obtain ⟨c1, s1, s2, b1⟩ := hb.neg tn'
        obtain ⟨c2, _, _, b2⟩ := b1.neg tn'
        have cm := cmS_eq (d := dOf a) (t := t) s1.symm s2.symm
        exact go w4 (allSay_append hH (allSay_append ⟨k5, k7, hn0, tn, trivial⟩ (allSay_append c1 (allSay_append ⟨cm, hn0, tn, cm, trivial⟩ (allSay_append c2 ⟨by rw [cm, s1, s2]; rfl, b2.tl⟩))))) b2.mono
      | false =>
        have tn' : 0 ≤ t := by have := of_decide_eq_false tn; omega
        obtain ⟨c1, c2, s1, s2, b1⟩ := hb.sum tn' t1
        obtain ⟨c3, c4, s3, s4, b2⟩ := b1.sum tn' t1
        have cm := cmS_eq (d := dOf a) (t := t) s1 s2
        exact go w5 (allSay_append hH (allSay_append ⟨k5, k7, trivial⟩ (allSay_append c1 (allSay_append c2 ⟨cm, allSay_append c3 ⟨cm, allSay_append c4 ⟨by rw [cm]; unfold RS.mean; rw [s3, s4]; exact neZ _, b2.tl⟩⟩⟩)))) b2.mono
    | false =>
      cases bx : badX x2 (dOf a).g with
      | true => exact go w6 (allSay_append hH (allSay_append ⟨k5, k7, hn0, by rw [gE]; exact bx, bx, e11, trivial⟩ hb.tl)) hb.mono
      | false =>
        obtain ⟨y0, y1⟩ := badX_false.1 bx
        obtain ⟨c1, c2, b⟩ := hb.res hm y0 y1
        exact go w7 (allSay_append hH (allSay_append ⟨k5, k7, trivial⟩ (allSay_append c1 (allSay_append ⟨bx, pB_is c2, e00, trivial⟩ b.tl)))) b.mono
theorem exRp (p : PRp) (a : ARp) (h : okRp p a) (hg : goRp p a = false) : (rdRp p a).eval = some (.exit 0, FRp p a) := T.path_eval (wayRpx p a) ⟨hg, trivial⟩
noncomputable def famRp : LSpec := famC [2,7,8,9] SRp 2000 2002 138 decRp okRp goRp rdRp FRp muRp (.exit 0)
theorem lpRp_ok : LoopOk RQ lpRp famRp := famC_ok (vs := vsRp) (bs := bsRp) RQ_ok mixed (noLoops_ok _) decRp_ok (by simp) (fun _ _ => rfl) (fun _ _ => rfl) stepRp exRp
noncomputable def playR (a b : Int) (l : List (Int × Int × Int × Int)) : T V := execS RQ (byReg [(rgRp, famRp)]) 10 [iv a, iv b, .orow 72 [.int .i64, .int .i64, .int .i64, .int .i64] l]
end Go.Proofs.Ytheknddbbgjpkaa.Rin
