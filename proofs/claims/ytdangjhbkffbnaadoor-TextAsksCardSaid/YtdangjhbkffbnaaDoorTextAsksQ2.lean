import Derived.Test.YtdangjhbkffbnaaDoorTextAsksQ
/- Layer 4: the document's Print: run. -/
namespace Go.Proofs.YtdangjhbkffbnaaDoor.Txt
open Go.Eng Go.RowKit
set_option linter.unusedVariables false
set_option linter.unusedSimpArgs false
set_option maxRecDepth 100000
noncomputable def P4 : Cfg := ⟨Tryd.prog, lookG [(36, .val Conf.mayS), (33, .val valR), (44, .val nmsR), (43, .val thiR), (16, .val rshS), (42, .val decS)], [], 0⟩
theorem P4_ok : P4.Ok := Cfg.ok ⟨Conf.refmay_ok, valR_ok, nmsR_ok, thiR_ok, rshS_ok, decS_ok, trivial⟩ trivial
noncomputable def rpiX : Eng.Spec := execS P4 (rounds P4 21 1) 14
theorem rpiX_ok : SpecOk Tryd.prog 14 rpiX := execS_rounds P4_ok mixed 21 1 Tryd.func14 (by kernel_rfl) (by kernel_rfl)
def mxC (c : Cf) (k : Nat) : Int := if 0 > valC c k then 0 else valC c k
def toldR (c : Cf) (k : Nat) : ByteArray := bif thin k then showB (valC c k) else itoaB (mxC c k)
def SB (c : Cf) : Nat → ByteArray
  | 0 => ⟨#[]⟩
  | k + 1 => SB c k ++ nmK k ++ clB ++ toldR c k ++ nlB
def thC (c : Cf) (k : Nat) : List (Bool × Bool) := bif thin k then [(in64 (valC c k), true)] else []
def cdR (c : Cf) (k : Nat) : List (Bool × Bool) := (po (mxC c k), true) :: (thin k, thin k) :: (thC c k ++ [(over ((SB c k).size + (nmK k).size), false), (over ((SB c k ++ nmK k).size + clB.size), false), (over ((SB c k ++ nmK k ++ clB).size + (toldR c k).size), false), (over ((SB c k ++ nmK k ++ clB ++ toldR c k).size + nlB.size), false)])
def wdR (k : Nat) : List Bool := true :: thin k :: ((bif thin k then [true] else []) ++ [false, false, false, false])
theorem rpi_n (c : Cf) : T.path [true] (T.anon (rpiX [Conf.confV c])) = some ([(!Conf.mayB c, true)], .tup [.s (.str ⟨#[]⟩), iv 1]) := by kernel_rfl
theorem rpi_w (c : Cf) : T.path (false :: (List.range 20).flatMap wdR) (T.anon (rpiX [Conf.confV c])) = some ((!Conf.mayB c, false) :: (List.range 20).flatMap (cdR c), .tup [.s (.str (SB c 20)), iv 0]) := by kernel_rfl
theorem SB_is {c : Cf} (hm : Conf.mayB c = true) : ∀ k, lnsB c k = SB c (k + 1) := by
  have ht : ∀ k, toldR c k = toldB c k := fun k => by
    unfold toldR toldB
    cases h : thin k with
    | true => rfl
    | false =>
      rcases val_of hm k with ⟨-, rfl⟩ | ⟨v0, -, -⟩
      · cases h
      · show itoaB (mxC c k) = _
        unfold mxC
        rw [if_neg (by omega)]; rfl
  have hn : ∀ k, SB c (k + 1) = SB c k ++ lnB c k := fun k => by
    show SB c k ++ nmK k ++ clB ++ toldR c k ++ nlB = _
    rw [ht]
    unfold lnB
    simp only [ByteArray.append_assoc]
  intro k
  induction k with
  | zero =>
    rw [hn]
    show lnB c 0 = ⟨#[]⟩ ++ lnB c 0
    exact ByteArray.empty_append.symm
  | succ k ih =>
    rw [hn (k + 1), ← ih]
    rfl
theorem toldR_size (c : Cf) (k : Nat) : (toldR c k).size ≤ 60 := by
  unfold toldR
  cases thin k with
  | true => exact showB_size _
  | false =>
    have := (itoaB_size (mxC c k)).1
    show (itoaB (mxC c k)).size ≤ 60
    omega
theorem SB_size (c : Cf) : ∀ k, (SB c k).size ≤ 72 * k
  | 0 => Nat.zero_le _
  | k + 1 => by
    have h1 := SB_size c k
    have h2 := nmK_size k
    have h3 := toldR_size c k
    show (SB c k ++ nmK k ++ clB ++ toldR c k ++ nlB).size ≤ _
    rw [ByteArray.size_append, ByteArray.size_append, ByteArray.size_append, ByteArray.size_append, cl_size, nl_size]; omega
theorem cdR_say {c : Cf} (hm : Conf.mayB c = true) {k : Nat} (hk : k < 20) : allSay (cdR c k) := by
  have h1 := nmK_size k
  have h2 := toldR_size c k
  have h3 := SB_size c k
  have hv := val_of hm k
  have hp : po (mxC c k) = true := by
    unfold po mxC
    rw [Bool.and_eq_true, decide_eq_true_eq, decide_eq_true_eq]
    split <;> omega
  have ht : allSay (thC c k) := by
    unfold thC
    cases thin k with
    | true =>
      refine ⟨?_, trivial⟩
      unfold in64
      rw [Bool.and_eq_true, decide_eq_true_eq, decide_eq_true_eq]; omega
    | false => trivial
  unfold cdR
  refine ⟨hp, rfl, allSay_append ht ⟨?_, ?_, ?_, ?_, trivial⟩⟩
  · exact over_no (by omega)
  · rw [ByteArray.size_append, cl_size]; exact over_no (by omega)
  · rw [ByteArray.size_append, ByteArray.size_append, cl_size]; exact over_no (by omega)
  · rw [ByteArray.size_append, ByteArray.size_append, ByteArray.size_append, cl_size, nl_size]; exact over_no (by omega)
theorem rpi_run {c : Cf} (hm : Conf.mayB c = true) : (rpiX [Conf.confV c]).eval = some (.tup [.s (.str (prB c)), iv 0]) := by
  rw [← T.eval_anon (t := rpiX _)]
  have ha : allSay ((List.range 20).flatMap (cdR c)) := by
    have : ∀ l : List Nat, (∀ k ∈ l, k < 20) → allSay (l.flatMap (cdR c)) := by
      intro l
      induction l with
      | nil => exact fun _ => trivial
      | cons a r ih => exact fun hl => allSay_append (cdR_say hm (hl a List.mem_cons_self)) (ih fun i hi => hl i (List.mem_cons_of_mem _ hi))
    exact this _ fun k hk => List.mem_range.1 hk
  have way := rpi_w c
  rw [show SB c 20 = prB c from (SB_is hm 19).symm] at way
  generalize (List.range 20).flatMap (cdR c) = L at way ha
  generalize (List.range 20).flatMap wdR = W at way
  exact T.path_eval way ⟨by rw [hm]; rfl, ha⟩
def rpiS : Eng.Spec
  | [x] => Conf.asConf x fun c => .ite none (Conf.mayB c) (.ret (.tup [.s (.str (prB c)), iv 0])) (.ret (.tup [.s (.str ⟨#[]⟩), iv 1]))
  | _ => .fail
theorem rpiS_ok : SpecOk Tryd.prog 14 rpiS := rpiX_ok.of_den fun args v hfl h => by
  clear hfl
  unfold rpiS at h
  split at h
  · obtain ⟨c, rfl, h2⟩ := Conf.asConf_some h
    cases hm : Conf.mayB c with
    | true =>
      rw [hm] at h2
      obtain rfl := Option.some.inj h2
      exact ⟨_, rpi_run hm, ⟨rfl, rfl⟩, rfl⟩
    | false =>
      rw [hm] at h2
      obtain rfl := Option.some.inj h2
      refine ⟨_, ?_, ⟨rfl, rfl⟩, rfl⟩
      rw [← T.eval_anon (t := rpiX _)]
      exact T.path_eval (rpi_n c) ⟨by rw [hm]; rfl, trivial⟩
  · cases h
end Go.Proofs.YtdangjhbkffbnaaDoor.Txt

/- Layer 4: the document's digits: loop. -/
namespace Go.Proofs.YtdangjhbkffbnaaDoor.Txt
open Go.Eng Go.RowKit
set_option linter.unusedVariables false
set_option linter.unusedSimpArgs false
set_option maxRecDepth 100000
noncomputable def lpDg : Code := loopAt Tryd.prog 29 0
structure PDg where (s : ByteArray)
structure ADg where (n : Int) (i : Int)
abbrev SDg : List (Nat × Src) := []
def vsDg (p : PDg) (a : ADg) : List V := [.s (.str p.s), iv a.n, iv a.i]
def bsDg (p : PDg) (a : ADg) : List Blk := []
noncomputable def FDg (p : PDg) (a : ADg) : St := mkSt [0,5,6] (keysR SDg) 3000 41 (vsDg p a) (bsDg p a)
abbrev SDgx : List (Nat × Src) := []
noncomputable def rdDg (p : PDg) (a : ADg) : T (Ex × St) := T.anon (roundX K0 noLoops lpDg [0,5,6] SDg [4,5] SDgx 3000 3000 (mkSt [0,5,6] (keysR SDg) 3000 41 (vsDg p a) (bsDg p a)))
def decDg_v0 : V → Option ((ByteArray))
  | .s (.str s) => some (s)
  | _ => none
theorem decDg_v0_ok (b : V) (x0 : (ByteArray)) (h : decDg_v0 b = some x0) : b = .s (.str (x0)) := by
  unfold decDg_v0 at h
  split at h
  · cases h
    rfl
  · cases h
def decDg_v1 : V → Option ((Int))
  | .s (.int .i64 n) => some (n)
  | _ => none
theorem decDg_v1_ok (b : V) (x1 : (Int)) (h : decDg_v1 b = some x1) : b = iv (x1) := by
  unfold decDg_v1 at h
  split at h
  · cases h
    rfl
  · cases h
def decDg_v2 : V → Option ((Int))
  | .s (.int .i64 i) => some (i)
  | _ => none
theorem decDg_v2_ok (b : V) (x2 : (Int)) (h : decDg_v2 b = some x2) : b = iv (x2) := by
  unfold decDg_v2 at h
  split at h
  · cases h
    rfl
  · cases h
def decDg : List V → List Blk → Option (PDg × ADg)
  | [v0, v1, v2], [] => (decDg_v0 v0).bind fun x0 => (decDg_v1 v1).bind fun x1 => (decDg_v2 v2).bind fun x2 => some (⟨(x0)⟩, ⟨(x1), (x2)⟩)
  | _, _ => none
theorem decDg_ok (l : List V) (b : List Blk) (d : PDg × ADg) (h : decDg l b = some d) : l = vsDg d.1 d.2 ∧ b = bsDg d.1 d.2 := by
  unfold decDg at h
  split at h
  · obtain ⟨x0, hx0, h⟩ := Option.bind_eq_some_iff.1 h
    obtain ⟨x1, hx1, h⟩ := Option.bind_eq_some_iff.1 h
    obtain ⟨x2, hx2, h⟩ := Option.bind_eq_some_iff.1 h
    have ex0 := decDg_v0_ok _ _ hx0
    have ex1 := decDg_v1_ok _ _ hx1
    have ex2 := decDg_v2_ok _ _ hx2
    cases h
    subst ex0 ex1 ex2
    exact ⟨rfl, rfl⟩
  · cases h
noncomputable def rgDg : Nat := (firstReg lpDg).getD 0
theorem rgDg_is : firstReg lpDg = some rgDg := by kernel_rfl
def xDg (p : PDg) (a : ADg) : UInt8 := (L8 p.s).getD a.i.toNat 0
def bD (p : PDg) (a : ADg) : Int := byteAt p.s a.i
def inD (p : PDg) (a : ADg) : Bool := decide (0 ≤ a.i) && decide (a.i < (p.s.size : Int))
def hdD (p : PDg) (a : ADg) (c : Bool) : List (Bool × Bool) := [(decide (a.i < (p.s.size : Int)), true), (inD p a, true), (bif decide (bD p a < 48) == false && true then inD p a else true, true), (bif decide (bD p a < 48) then true else decide (57 < bD p a), c)]
def stD (p : PDg) (a : ADg) (x y : V) : St := mkSt [4, 5] [] 3000 41 [x, y] (bsDg p a)
theorem dg_n (p : PDg) (a : ADg) : T.path [true, true, true, false, true] (rdDg p a) = some (hdD p a false ++ [(inD p a, true)], (.normal, FDg p ⟨IntKind.wrap .i64 (IntKind.wrap .i64 (a.n * 10) + IntKind.wrap .i64 (IntKind.wrap .u8 (bD p a - 48))), IntKind.wrap .i64 (a.i + 1)⟩)) := by kernel_rfl
theorem dg_f (p : PDg) (a : ADg) : T.path [true, true, true, true] (rdDg p a) = some (hdD p a true, (.ret, stD p a (iv (-1)) (iv a.n))) := by kernel_rfl
theorem dg_x (p : PDg) (a : ADg) : T.path [false] (rdDg p a) = some ([(decide (a.i < (p.s.size : Int)), false)], (.exit 0, stD p a .junk (iv a.n))) := by kernel_rfl
structure okDg (p : PDg) (a : ADg) : Prop where
  z9 : (p.s.size : Int) ≤ 9
  i0 : 0 ≤ a.i
  i1 : a.i ≤ (p.s.size : Int)
  d : ∀ b ∈ (L8 p.s).take a.i.toNat, dig b = true
  n : a.n = natL ((L8 p.s).take a.i.toNat)
def goDg (p : PDg) (a : ADg) : Bool := decide (a.i < (p.s.size : Int)) && dig (xDg p a)
def muDg (p : PDg) (a : ADg) : Nat := ((p.s.size : Int) - a.i).toNat
theorem dg_hd {p : PDg} {a : ADg} (h : okDg p a) (hi : a.i < (p.s.size : Int)) {c : Bool} (hc : (!dig (xDg p a)) = c) : allSay (hdD p a c) := by
  have hin : inD p a = true := by unfold inD; rw [decide_eq_true h.i0, decide_eq_true (show a.i < (p.s.size : Int) by omega)]; rfl
  refine ⟨decide_eq_true hi, hin, by rw [hin]; cases decide (bD p a < 48) <;> rfl, ?_, trivial⟩
  have e : bD p a = (((xDg p a).toNat : Nat) : Int) := byteAt_L8 _ _
  rw [← hc, e]
  unfold dig
  by_cases q : 48 ≤ (xDg p a).toNat
  · rw [decide_eq_true q, decide_eq_false (show ¬ (((xDg p a).toNat : Nat) : Int) < 48 by omega)]
    by_cases r : (xDg p a).toNat ≤ 57
    · rw [decide_eq_true r, decide_eq_false (show ¬ (57 : Int) < (((xDg p a).toNat : Nat) : Int) by omega)]; rfl
    · rw [decide_eq_false r, decide_eq_true (show (57 : Int) < (((xDg p a).toNat : Nat) : Int) by omega)]; rfl
  · rw [decide_eq_false q, decide_eq_true (show (((xDg p a).toNat : Nat) : Int) < 48 by omega)]; rfl
theorem stepDg (p : PDg) (a : ADg) (h : okDg p a) (hg : goDg p a = true) : ∃ b, stepC okDg rdDg FDg muDg p a b := by
  unfold goDg at hg
  rw [Bool.and_eq_true, decide_eq_true_eq] at hg
  obtain ⟨hi, hd⟩ := hg
  have hh := dg_hd h hi (c := false) (by rw [hd]; rfl)
  have hin : inD p a = true := hh.2.1
  obtain ⟨h2, h3, h4, h5, h6⟩ := h
  have hl : a.i.toNat < (L8 p.s).length := by rw [L8_len]; omega
  have ex : xDg p a = (L8 p.s)[a.i.toNat] := by
    unfold xDg
    rw [List.getD_eq_getElem?_getD, List.getElem?_eq_getElem hl]; rfl
  have e : bD p a = (((xDg p a).toNat : Nat) : Int) := byteAt_L8 _ _
  obtain ⟨q0, q1⟩ := natL_in a.i.toNat ((L8 p.s).take a.i.toNat) (by rw [List.length_take]; omega) h5
  have hq : (10 : Int) ^ a.i.toNat ≤ 10 ^ 9 := by
    have : (10 : Nat) ^ a.i.toNat ≤ 10 ^ 9 := Nat.pow_le_pow_right (by decide) (by omega)
    exact_mod_cast this
  have hq9 : (10 : Int) ^ 9 = 1000000000 := by decide
  rw [← h6] at q0 q1
  have hd' := hd
  unfold dig at hd'
  rw [Bool.and_eq_true, decide_eq_true_eq, decide_eq_true_eq] at hd'
  have way := dg_n p a
  rw [wrap64 (n := a.i + 1) (by omega) (by omega), show IntKind.wrap .u8 (bD p a - 48) = (((xDg p a).toNat : Nat) : Int) - 48 by rw [IntKind.wrap_u8, e]; omega, wrap64 (n := a.n * 10) (by omega) (by omega), wrap64 (n := (((xDg p a).toNat : Nat) : Int) - 48) (by omega) (by omega), wrap64 (n := a.n * 10 + ((((xDg p a).toNat : Nat) : Int) - 48)) (by omega) (by omega)] at way
  refine ⟨_, T.path_eval way (allSay_append hh ⟨hin, trivial⟩), ⟨h2, by show 0 ≤ a.i + 1; omega, by show a.i + 1 ≤ (p.s.size : Int); omega, ?_, ?_⟩, by show ((p.s.size : Int) - (a.i + 1)).toNat < ((p.s.size : Int) - a.i).toNat; omega⟩
  · show ∀ b ∈ (L8 p.s).take (a.i + 1).toNat, dig b = true
    rw [take_nextT h3 hl]
    intro b hb
    rcases List.mem_append.1 hb with q | q
    · exact h5 b q
    · rw [List.mem_singleton.1 q, ← ex]; exact hd
  · show a.n * 10 + ((((xDg p a).toNat : Nat) : Int) - 48) = natL ((L8 p.s).take (a.i + 1).toNat)
    rw [take_nextT h3 hl, natL_snoc, ← h6, ← ex]
noncomputable def outDg (p : PDg) (a : ADg) : T (Ex × St) := .ite none (decide (a.i < (p.s.size : Int))) (.ret (.ret, stD p a (iv (-1)) (iv a.n))) (.ret (.exit 0, stD p a .junk (iv a.n)))
theorem exDg (p : PDg) (a : ADg) (h : okDg p a) (hg : goDg p a = false) (r : Ex × St) (hr : (outDg p a).eval = some r) : r.1 ≠ .normal ∧ (rdDg p a).eval = some r := by
  unfold outDg at hr
  by_cases hi : a.i < (p.s.size : Int)
  · have hd : dig (xDg p a) = false := by
      unfold goDg at hg
      rw [decide_eq_true hi, Bool.true_and] at hg
      exact hg
    rw [decide_eq_true hi] at hr
    obtain rfl := Option.some.inj hr
    exact ⟨by simp, T.path_eval (dg_f p a) (dg_hd h hi (by rw [hd]; rfl))⟩
  · rw [decide_eq_false hi] at hr
    obtain rfl := Option.some.inj hr
    exact ⟨by simp, T.path_eval (dg_x p a) ⟨decide_eq_false hi, trivial⟩⟩
noncomputable def famDg : LSpec := famE [0,5,6] SDg SDgx 3000 3000 41 decDg okDg goDg rdDg FDg muDg outDg
theorem lpDg_ok : LoopOk K0 lpDg famDg := famE_ok (vs := vsDg) (bs := bsDg) K0_ok mixed (noLoops_ok _) decDg_ok (fun _ _ => rfl) (fun _ _ => rfl) stepDg exDg
noncomputable def dgtX : Eng.Spec := execS K0 (byReg [(rgDg, famDg)]) 29
theorem dgtX_ok : SpecOk Tryd.prog 29 dgtX := execS_loops K0_ok mixed Tryd.func29 (by kernel_rfl) (by kernel_rfl) (one_lp (by kernel_rfl) rgDg_is lpDg_ok)
noncomputable def eDg (s : ByteArray) : ADg := endW (nxtC okDg goDg rdDg FDg muDg ⟨s⟩) ⟨0, 0⟩
theorem dgt_t (e : Bool) (s : ByteArray) (k : Int) : T.path [true] (T.anon (dgtX [.s (.str s), kV e k])) = some ([(shK s k, true)], iv (-1)) := by cases e <;> kernel_rfl
theorem dgt_f (e : Bool) (s : ByteArray) (k : Int) : T.path [false, true, true] (T.anon (dgtX [.s (.str s), kV e k])) = some ([(shK s k, false), (invC okDg ⟨s⟩ ⟨0, 0⟩, true), (decide ((eDg s).i < (s.size : Int)), true)], iv (-1)) := by cases e <;> kernel_rfl
theorem dgt_n (e : Bool) (s : ByteArray) (k : Int) : T.path [false, true, false] (T.anon (dgtX [.s (.str s), kV e k])) = some ([(shK s k, false), (invC okDg ⟨s⟩ ⟨0, 0⟩, true), (decide ((eDg s).i < (s.size : Int)), false)], iv (eDg s).n) := by cases e <;> kernel_rfl
/-- the number that so many digits say, or -1 -/
def dgI (l : List UInt8) (k : Int) : Int := bif natO l k then natL l else -1
theorem dgt_run (e : Bool) (s : ByteArray) {k : Int} (hk : k ≤ 9) : ∃ v, (dgtX [.s (.str s), kV e k]).eval = some v ∧ flat v = true ∧ v.den nu0 = (iv (dgI (L8 s) k)).den nu0 := by
  rw [← T.eval_anon (t := dgtX _)]
  unfold dgI
  cases hs : shK s k with
  | true =>
    refine ⟨_, T.path_eval (dgt_t e s k) ⟨hs, trivial⟩, rfl, ?_⟩
    have : natO (L8 s) k = false := by
      unfold natO; rw [L8_len]
      unfold shK at hs
      by_cases q : (s.size : Int) < 1
      · rw [decide_eq_false (show ¬ 1 ≤ s.size by omega)]; rfl
      · rw [decide_eq_false q] at hs
        have hs : k < (s.size : Int) := of_decide_eq_true hs
        rw [decide_eq_false (show ¬ (s.size : Int) ≤ k by omega)]; simp
    rw [this]; rfl
  | false =>
    have h1 : 1 ≤ s.size ∧ (s.size : Int) ≤ k := by
      unfold shK at hs
      by_cases q : (s.size : Int) < 1
      · rw [decide_eq_true q] at hs; cases hs
      · rw [decide_eq_false q] at hs
        have hs : ¬ k < (s.size : Int) := of_decide_eq_false hs
        omega
    have h0 : okDg ⟨s⟩ ⟨0, 0⟩ := ⟨by show (s.size : Int) ≤ 9; omega, Int.le_refl _, by show (0 : Int) ≤ (s.size : Int); omega, fun b hb => by
      have hb : b ∈ (L8 s).take 0 := hb
      simp at hb, by show (0 : Int) = natL ((L8 s).take 0); rfl⟩
    obtain ⟨k1, k2⟩ := endC stepDg h0
    have k1 : okDg ⟨s⟩ (eDg s) := k1
    have k2 : goDg ⟨s⟩ (eDg s) = false := k2
    obtain ⟨-, i0, i1, hd, hn⟩ := k1
    have i1 : (eDg s).i ≤ (s.size : Int) := i1
    have hd : ∀ b ∈ (L8 s).take (eDg s).i.toNat, dig b = true := hd
    have hn : (eDg s).n = natL ((L8 s).take (eDg s).i.toNat) := hn
    by_cases hi : (eDg s).i < (s.size : Int)
    · refine ⟨_, T.path_eval (dgt_f e s k) ⟨hs, invC_is h0, decide_eq_true hi, trivial⟩, rfl, ?_⟩
      have hx : dig (xDg ⟨s⟩ (eDg s)) = false := by
        unfold goDg at k2
        rw [decide_eq_true (show (eDg s).i < ((PDg.s ⟨s⟩).size : Int) from hi), Bool.true_and] at k2
        exact k2
      have hl : (eDg s).i.toNat < (L8 s).length := by rw [L8_len]; omega
      have ex : xDg ⟨s⟩ (eDg s) = (L8 s)[(eDg s).i.toNat] := by
        unfold xDg
        rw [List.getD_eq_getElem?_getD]
        show ((L8 s)[(eDg s).i.toNat]?).getD 0 = _
        rw [List.getElem?_eq_getElem hl]; rfl
      have : (L8 s).all dig = false := by
        rw [List.all_eq_false]
        exact ⟨_, List.getElem_mem hl, by rw [← ex, hx]; simp⟩
      have : natO (L8 s) k = false := by unfold natO; rw [this]; simp
      rw [this]; rfl
    · refine ⟨_, T.path_eval (dgt_n e s k) ⟨hs, invC_is h0, decide_eq_false hi, trivial⟩, rfl, ?_⟩
      rw [show (eDg s).i.toNat = (L8 s).length by rw [L8_len]; omega, List.take_length] at hd hn
      have : natO (L8 s) k = true := by
        unfold natO
        rw [List.all_eq_true.2 hd, L8_len, decide_eq_true h1.1, decide_eq_true h1.2]; rfl
      rw [this, hn]; rfl
def dgtS : Eng.Spec
  | [.s (.str s), .n .i64 k] => .ite none (decide (k ≤ 9)) (.ret (iv (dgI (L8 s) k))) .fail
  | [.s (.str s), .s (.int .i64 k)] => .ite none (decide (k ≤ 9)) (.ret (iv (dgI (L8 s) k))) .fail
  | _ => .fail
theorem dgtS_ok : SpecOk Tryd.prog 29 dgtS := dgtX_ok.of_den fun args v hfl h => by
  clear hfl
  unfold dgtS at h
  split at h
  · rename_i s k
    obtain ⟨hb, h⟩ := ite_T' h
    obtain rfl := Option.some.inj h
    obtain ⟨v, h1, h2, h3⟩ := dgt_run true s (of_decide_eq_true hb)
    exact ⟨v, h1, ⟨h2, rfl⟩, h3⟩
  · rename_i s k
    obtain ⟨hb, h⟩ := ite_T' h
    obtain rfl := Option.some.inj h
    obtain ⟨v, h1, h2, h3⟩ := dgt_run false s (of_decide_eq_true hb)
    exact ⟨v, h1, ⟨h2, rfl⟩, h3⟩
  · cases h
end Go.Proofs.YtdangjhbkffbnaaDoor.Txt

/- Layer 4: the document's Number: loop. -/
namespace Go.Proofs.YtdangjhbkffbnaaDoor.Txt
open Go.Eng Go.RowKit
set_option linter.unusedVariables false
set_option linter.unusedSimpArgs false
set_option maxRecDepth 100000
noncomputable def D0 : Cfg := ⟨Tryd.prog, lookG [(29, .val dgtS)], [], 0⟩
theorem D0_ok : D0.Ok := Cfg.ok ⟨dgtS_ok, trivial⟩ trivial
noncomputable def lpPo : Code := loopAt Tryd.prog 10 0
structure PPo where (s : ByteArray) (g : Bool)
structure APo where (o : Int) (i : Int)
abbrev SPo : List (Nat × Src) := []
def vsPo (p : PPo) (a : APo) : List V := [.s (.str p.s), bv p.g, iv a.o, iv a.i]
def bsPo (p : PPo) (a : APo) : List Blk := []
noncomputable def FPo (p : PPo) (a : APo) : St := mkSt [0,4,5,6] (keysR SPo) 3000 72 (vsPo p a) (bsPo p a)
abbrev SPox : List (Nat × Src) := []
noncomputable def rdPo (p : PPo) (a : APo) : T (Ex × St) := T.anon (roundX D0 noLoops lpPo [0,4,5,6] SPo [0,4,5] SPox 3000 3000 (mkSt [0,4,5,6] (keysR SPo) 3000 72 (vsPo p a) (bsPo p a)))
def decPo_v0 : V → Option ((ByteArray))
  | .s (.str s) => some (s)
  | _ => none
theorem decPo_v0_ok (b : V) (x0 : (ByteArray)) (h : decPo_v0 b = some x0) : b = .s (.str (x0)) := by
  unfold decPo_v0 at h
  split at h
  · cases h
    rfl
  · cases h
def decPo_v1 : V → Option ((Bool))
  | .s (.bool g) => some (g)
  | _ => none
theorem decPo_v1_ok (b : V) (x1 : (Bool)) (h : decPo_v1 b = some x1) : b = bv (x1) := by
  unfold decPo_v1 at h
  split at h
  · cases h
    rfl
  · cases h
def decPo_v2 : V → Option ((Int))
  | .s (.int .i64 o) => some (o)
  | _ => none
theorem decPo_v2_ok (b : V) (x2 : (Int)) (h : decPo_v2 b = some x2) : b = iv (x2) := by
  unfold decPo_v2 at h
  split at h
  · cases h
    rfl
  · cases h
def decPo_v3 : V → Option ((Int))
  | .s (.int .i64 i) => some (i)
  | _ => none
theorem decPo_v3_ok (b : V) (x3 : (Int)) (h : decPo_v3 b = some x3) : b = iv (x3) := by
  unfold decPo_v3 at h
  split at h
  · cases h
    rfl
  · cases h
def decPo : List V → List Blk → Option (PPo × APo)
  | [v0, v1, v2, v3], [] => (decPo_v0 v0).bind fun x0 => (decPo_v1 v1).bind fun x1 => (decPo_v2 v2).bind fun x2 => (decPo_v3 v3).bind fun x3 => some (⟨(x0), (x1)⟩, ⟨(x2), (x3)⟩)
  | _, _ => none
theorem decPo_ok (l : List V) (b : List Blk) (d : PPo × APo) (h : decPo l b = some d) : l = vsPo d.1 d.2 ∧ b = bsPo d.1 d.2 := by
  unfold decPo at h
  split at h
  · obtain ⟨x0, hx0, h⟩ := Option.bind_eq_some_iff.1 h
    obtain ⟨x1, hx1, h⟩ := Option.bind_eq_some_iff.1 h
    obtain ⟨x2, hx2, h⟩ := Option.bind_eq_some_iff.1 h
    obtain ⟨x3, hx3, h⟩ := Option.bind_eq_some_iff.1 h
    have ex0 := decPo_v0_ok _ _ hx0
    have ex1 := decPo_v1_ok _ _ hx1
    have ex2 := decPo_v2_ok _ _ hx2
    have ex3 := decPo_v3_ok _ _ hx3
    cases h
    subst ex0 ex1 ex2 ex3
    exact ⟨rfl, rfl⟩
  · cases h
noncomputable def rgPo : Nat := (firstReg lpPo).getD 0
theorem rgPo_is : firstReg lpPo = some rgPo := by kernel_rfl
def inP (p : PPo) (a : APo) : Bool := decide (0 ≤ a.i) && decide (a.i < (p.s.size : Int))
def goPo (p : PPo) (a : APo) : Bool := bif decide (a.i < (p.s.size : Int)) then a.o == (p.s.size : Int) else false
theorem po_t (p : PPo) (a : APo) : T.path [true, true, true] (rdPo p a) = some ([(goPo p a, true), (inP p a, true), (byteAt p.s a.i == 46, true)], (.normal, FPo p ⟨a.i, IntKind.wrap .i64 (a.i + 1)⟩)) := by kernel_rfl
theorem po_f (p : PPo) (a : APo) : T.path [true, true, false] (rdPo p a) = some ([(goPo p a, true), (inP p a, true), (byteAt p.s a.i == 46, false)], (.normal, FPo p ⟨a.o, IntKind.wrap .i64 (a.i + 1)⟩)) := by kernel_rfl
def stPo (p : PPo) (a : APo) : St := mkSt [0, 4, 5] [] 3000 72 [.s (.str p.s), bv p.g, iv a.o] (bsPo p a)
theorem po_x (p : PPo) (a : APo) : T.path [false] (rdPo p a) = some ([(goPo p a, false)], (.exit 0, stPo p a)) := by kernel_rfl
structure okPo (p : PPo) (a : APo) : Prop where
  z : p.s.size ≤ 1000000
  i0 : 0 ≤ a.i
  i1 : a.i ≤ (p.s.size : Int)
  c : (a.o = (p.s.size : Int) ∧ ∀ b ∈ (L8 p.s).take a.i.toNat, b ≠ 46) ∨ (0 ≤ a.o ∧ a.o < (p.s.size : Int) ∧ (L8 p.s).getD a.o.toNat 0 = 46 ∧ ∀ b ∈ (L8 p.s).take a.o.toNat, b ≠ 46)
def muPo (p : PPo) (a : APo) : Nat := ((p.s.size : Int) - a.i).toNat
theorem stepPo (p : PPo) (a : APo) (h : okPo p a) (hg : goPo p a = true) : ∃ b, stepC okPo rdPo FPo muPo p a b := by
  have hg' := hg
  unfold goPo at hg'
  have hi : a.i < (p.s.size : Int) := by
    by_cases q : a.i < (p.s.size : Int)
    · exact q
    · rw [decide_eq_false q] at hg'; cases hg'
  rw [decide_eq_true hi] at hg'
  have ho : a.o = (p.s.size : Int) := beq_iff_eq.1 hg'
  obtain ⟨z, i0, i1, c⟩ := h
  have hin : inP p a = true := by unfold inP; rw [decide_eq_true i0, decide_eq_true hi]; rfl
  have wi : IntKind.wrap .i64 (a.i + 1) = a.i + 1 := wrap64 (by omega) (by omega)
  have hn : ∀ b ∈ (L8 p.s).take a.i.toNat, b ≠ 46 := by
    rcases c with c | c
    · exact c.2
    · omega
  have hl : a.i.toNat < (L8 p.s).length := by rw [L8_len]; omega
  have ex : (L8 p.s).getD a.i.toNat 0 = (L8 p.s)[a.i.toNat] := by
    rw [List.getD_eq_getElem?_getD, List.getElem?_eq_getElem hl]; rfl
  have eb : byteAt p.s a.i = ((((L8 p.s).getD a.i.toNat 0).toNat : Nat) : Int) := byteAt_L8 _ _
  cases hb : byteAt p.s a.i == 46 with
  | true =>
    have way := po_t p a
    rw [wi] at way
    refine ⟨_, T.path_eval way ⟨hg, hin, hb, trivial⟩, ⟨z, by show 0 ≤ a.i + 1; omega, by show a.i + 1 ≤ (p.s.size : Int); omega, .inr ⟨i0, hi, ?_, hn⟩⟩, by show ((p.s.size : Int) - (a.i + 1)).toNat < ((p.s.size : Int) - a.i).toNat; omega⟩
    have hb : byteAt p.s a.i = 46 := beq_iff_eq.1 hb
    rw [eb] at hb
    exact UInt8.toNat_inj.1 (by show ((L8 p.s).getD a.i.toNat 0).toNat = 46; omega)
  | false =>
    have way := po_f p a
    rw [wi] at way
    refine ⟨_, T.path_eval way ⟨hg, hin, hb, trivial⟩, ⟨z, by show 0 ≤ a.i + 1; omega, by show a.i + 1 ≤ (p.s.size : Int); omega, .inl ⟨ho, ?_⟩⟩, by show ((p.s.size : Int) - (a.i + 1)).toNat < ((p.s.size : Int) - a.i).toNat; omega⟩
    show ∀ b ∈ (L8 p.s).take (a.i + 1).toNat, b ≠ 46
    rw [take_nextT i0 hl]
    intro b hm
    rcases List.mem_append.1 hm with q | q
    · exact hn b q
    · rw [List.mem_singleton.1 q, ← ex]
      intro e
      rw [beq_eq_false_iff_ne] at hb
      apply hb
      rw [eb, e]; rfl
theorem exPo (p : PPo) (a : APo) (h : okPo p a) (hg : goPo p a = false) (r : Ex × St) (hr : (T.ret (Ex.exit 0, stPo p a)).eval = some r) : r.1 ≠ .normal ∧ (rdPo p a).eval = some r := by
  obtain rfl := Option.some.inj hr
  exact ⟨by simp, T.path_eval (po_x p a) ⟨hg, trivial⟩⟩
def outPo (p : PPo) (a : APo) : T (Ex × St) := .ret (.exit 0, stPo p a)
noncomputable def famPo : LSpec := famE [0,4,5,6] SPo SPox 3000 3000 72 decPo okPo goPo rdPo FPo muPo outPo
theorem lpPo_ok : LoopOk D0 lpPo famPo := famE_ok (vs := vsPo) (bs := bsPo) D0_ok mixed (noLoops_ok _) decPo_ok (fun _ _ => rfl) (fun _ _ => rfl) stepPo exPo
noncomputable def lpPd : Code := loopAt Tryd.prog 10 1
structure PPd where (g : Bool) (n : Int)
structure APd where (t : ByteArray)
abbrev SPd : List (Nat × Src) := []
def vsPd (p : PPd) (a : APd) : List V := [bv p.g, iv p.n, .s (.str a.t)]
def bsPd (p : PPd) (a : APd) : List Blk := []
noncomputable def FPd (p : PPd) (a : APd) : St := mkSt [4,7,9] (keysR SPd) 4000 72 (vsPd p a) (bsPd p a)
abbrev SPdx : List (Nat × Src) := []
noncomputable def rdPd (p : PPd) (a : APd) : T (Ex × St) := T.anon (roundX D0 noLoops lpPd [4,7,9] SPd [4,7,9] SPdx 4000 4000 (mkSt [4,7,9] (keysR SPd) 4000 72 (vsPd p a) (bsPd p a)))
def decPd_v0 : V → Option ((Bool))
  | .s (.bool g) => some (g)
  | _ => none
theorem decPd_v0_ok (b : V) (x0 : (Bool)) (h : decPd_v0 b = some x0) : b = bv (x0) := by
  unfold decPd_v0 at h
  split at h
  · cases h
    rfl
  · cases h
def decPd_v1 : V → Option ((Int))
  | .s (.int .i64 n) => some (n)
  | _ => none
theorem decPd_v1_ok (b : V) (x1 : (Int)) (h : decPd_v1 b = some x1) : b = iv (x1) := by
  unfold decPd_v1 at h
  split at h
  · cases h
    rfl
  · cases h
def decPd_v2 : V → Option ((ByteArray))
  | .s (.str t) => some (t)
  | _ => none
theorem decPd_v2_ok (b : V) (x2 : (ByteArray)) (h : decPd_v2 b = some x2) : b = .s (.str (x2)) := by
  unfold decPd_v2 at h
  split at h
  · cases h
    rfl
  · cases h
def decPd : List V → List Blk → Option (PPd × APd)
  | [v0, v1, v2], [] => (decPd_v0 v0).bind fun x0 => (decPd_v1 v1).bind fun x1 => (decPd_v2 v2).bind fun x2 => some (⟨(x0), (x1)⟩, ⟨(x2)⟩)
  | _, _ => none
theorem decPd_ok (l : List V) (b : List Blk) (d : PPd × APd) (h : decPd l b = some d) : l = vsPd d.1 d.2 ∧ b = bsPd d.1 d.2 := by
  unfold decPd at h
  split at h
  · obtain ⟨x0, hx0, h⟩ := Option.bind_eq_some_iff.1 h
    obtain ⟨x1, hx1, h⟩ := Option.bind_eq_some_iff.1 h
    obtain ⟨x2, hx2, h⟩ := Option.bind_eq_some_iff.1 h
    have ex0 := decPd_v0_ok _ _ hx0
    have ex1 := decPd_v1_ok _ _ hx1
    have ex2 := decPd_v2_ok _ _ hx2
    cases h
    subst ex0 ex1 ex2
    exact ⟨rfl, rfl⟩
  · cases h
noncomputable def rgPd : Nat := (firstReg lpPd).getD 0
theorem rgPd_is : firstReg lpPd = some rgPd := by kernel_rfl
abbrev zeB : ByteArray := ⟨#[48]⟩
theorem pd_n (p : PPd) (a : APd) : T.path [true, false] (rdPd p a) = some ([(decide ((a.t.size : Int) < 3), true), (over (a.t.size + zeB.size), false)], (.normal, FPd p ⟨a.t ++ zeB⟩)) := by kernel_rfl
def stPd (p : PPd) (a : APd) : St := mkSt [4, 7, 9] [] 4000 72 [bv p.g, iv p.n, .s (.str a.t)] (bsPd p a)
theorem pd_x (p : PPd) (a : APd) : T.path [false] (rdPd p a) = some ([(decide ((a.t.size : Int) < 3), false)], (.exit 2, stPd p a)) := by kernel_rfl
def okPd (p : PPd) (a : APd) : Prop := a.t.size ≤ 3
def goPd (p : PPd) (a : APd) : Bool := decide ((a.t.size : Int) < 3)
def muPd (p : PPd) (a : APd) : Nat := 3 - a.t.size
theorem pd_on {p : PPd} {a : APd} (h : okPd p a) (hg : goPd p a = true) : (rdPd p a).eval = some (.normal, FPd p ⟨a.t ++ zeB⟩) ∧ okPd p ⟨a.t ++ zeB⟩ ∧ (a.t ++ zeB).size = a.t.size + 1 := by
  have hi : (a.t.size : Int) < 3 := of_decide_eq_true hg
  have z : zeB.size = 1 := rfl
  have hs : (a.t ++ zeB).size = a.t.size + 1 := by rw [ByteArray.size_append, z]
  have h : a.t.size ≤ 3 := h
  refine ⟨T.path_eval (pd_n p a) ⟨hg, by rw [z]; exact over_no (by omega), trivial⟩, ?_, hs⟩
  show (a.t ++ zeB).size ≤ 3
  rw [hs]; omega
theorem stepPd (p : PPd) (a : APd) (h : okPd p a) (hg : goPd p a = true) : ∃ b, stepC okPd rdPd FPd muPd p a b := by
  obtain ⟨h1, h2, h3⟩ := pd_on h hg
  have hi : (a.t.size : Int) < 3 := of_decide_eq_true hg
  refine ⟨_, h1, h2, ?_⟩
  show 3 - (a.t ++ zeB).size < 3 - a.t.size
  rw [h3]; omega
def outPd (p : PPd) (a : APd) : T (Ex × St) := .ret (.exit 2, stPd p a)
theorem exPd (p : PPd) (a : APd) (h : okPd p a) (hg : goPd p a = false) (r : Ex × St) (hr : (outPd p a).eval = some r) : r.1 ≠ .normal ∧ (rdPd p a).eval = some r := by
  obtain rfl := Option.some.inj hr
  exact ⟨by simp, T.path_eval (pd_x p a) ⟨hg, trivial⟩⟩
noncomputable def famPd : LSpec := famE [4,7,9] SPd SPdx 4000 4000 72 decPd okPd goPd rdPd FPd muPd outPd
theorem lpPd_ok : LoopOk D0 lpPd famPd := famE_ok (vs := vsPd) (bs := bsPd) D0_ok mixed (noLoops_ok _) decPd_ok (fun _ _ => rfl) (fun _ _ => rfl) stepPd exPd
noncomputable def rnuX : Eng.Spec := execS D0 (byReg [(rgPo, famPo), (rgPd, famPd)]) 10
theorem rnuX_ok : SpecOk Tryd.prog 10 rnuX := execS_loops D0_ok mixed Tryd.func10 (by kernel_rfl) (by kernel_rfl) (two_lp (c := lpPo) (c' := lpPd) (by kernel_rfl) rgPo_is rgPd_is (by kernel_rfl) lpPo_ok lpPd_ok)
end Go.Proofs.YtdangjhbkffbnaaDoor.Txt

/- Layer 4: the document's Number: its ways. -/
namespace Go.Proofs.YtdangjhbkffbnaaDoor.Txt
open Go.Eng Go.RowKit
set_option linter.unusedVariables false
set_option linter.unusedSimpArgs false
set_option maxRecDepth 100000
def gS (s : ByteArray) : Bool := bif decide ((0 : Int) < (s.size : Int)) then byteAt s 0 == 45 else false
def fS (s : ByteArray) : Bool := bif decide ((0 : Int) < (s.size : Int)) == true && true then decide ((0 : Int) ≤ 0) && decide ((0 : Int) < (s.size : Int)) else true
def s1S (g : Bool) (s : ByteArray) : ByteArray := bif g then s.extract (Int.toNat 1) (Int.toNat (s.size : Int)) else s
def pS (g : Bool) (s : ByteArray) : PPo := ⟨s1S g s, gS s⟩
noncomputable def oS (p : PPo) : Int := (endW (nxtC okPo goPo rdPo FPo muPo p) ⟨(p.s.size : Int), 0⟩).o
def c1S (s : ByteArray) : Bool := decide ((0 : Int) ≤ 1) && (decide ((1 : Int) ≤ (s.size : Int)) && decide ((s.size : Int) ≤ (s.size : Int)))
noncomputable def dS (p : PPo) : ByteArray := p.s.extract (Int.toNat 0) (oS p).toNat
noncomputable def tS (p : PPo) : ByteArray := p.s.extract (W (oS p + 1)).toNat (Int.toNat (p.s.size : Int))
noncomputable def nS (p : PPo) : Int := dgI (L8 (dS p)) 9
noncomputable def hN (g : Bool) (s : ByteArray) (p : PPo) : List (Bool × Bool) := (fS s, true) :: (gS s, g) :: ((bif g then [(c1S s, true)] else []) ++ [(invC okPo p ⟨(p.s.size : Int), 0⟩, true), (decide ((0 : Int) ≤ 0) && (decide (0 ≤ oS p) && decide (oS p ≤ (p.s.size : Int))), true), (decide ((9 : Int) ≤ 9), true)])
def wN (g : Bool) : List Bool := true :: g :: ((bif g then [true] else []) ++ [true, true, true])
noncomputable def ptN (p : PPo) (c : Bool) : List (Bool × Bool) := [(decide (oS p < (p.s.size : Int)), true), (decide (0 ≤ W (oS p + 1)) && (decide (W (oS p + 1) ≤ (p.s.size : Int)) && decide ((p.s.size : Int) ≤ (p.s.size : Int))), true), (decide ((3 : Int) ≤ 9), true), (decide (dgI (L8 (tS p)) 3 < 0), c)]
noncomputable def ePd (p : PPd) (t : ByteArray) : ByteArray := (endW (nxtC okPd goPd rdPd FPd muPd p) ⟨t⟩).t
def sgN (g : Bool) (x : Int) : Int := bif g then W (0 - x) else x
noncomputable def pdS (p : PPo) : PPd := ⟨p.g, nS p⟩
theorem rn_a (g : Bool) (s : ByteArray) : T.path (wN g ++ [false, true]) (T.anon (rnuX [.s (.str s)])) = some (hN g s (pS g s) ++ [(decide (oS (pS g s) < ((pS g s).s.size : Int)), false), (decide (nS (pS g s) < 0), true)], .tup [iv 0, .ff]) := by cases g <;> kernel_rfl
theorem rn_b (g : Bool) (s : ByteArray) : T.path (wN g ++ [false, false, g]) (T.anon (rnuX [.s (.str s)])) = some (hN g s (pS g s) ++ [(decide (oS (pS g s) < ((pS g s).s.size : Int)), false), (decide (nS (pS g s) < 0), false), (gS s, g)], .tup [iv (sgN g (W (W (nS (pS g s) * 1000) + 0))), .tt]) := by cases g <;> kernel_rfl
theorem rn_c (g : Bool) (s : ByteArray) : T.path (wN g ++ [true, true, true, true]) (T.anon (rnuX [.s (.str s)])) = some (hN g s (pS g s) ++ ptN (pS g s) true, .tup [iv 0, .ff]) := by cases g <;> kernel_rfl
theorem rn_d (g : Bool) (s : ByteArray) : T.path (wN g ++ [true, true, true, false, true, true, true]) (T.anon (rnuX [.s (.str s)])) = some (hN g s (pS g s) ++ (ptN (pS g s) false ++ [(invC okPd (pdS (pS g s)) ⟨tS (pS g s)⟩, true), (decide ((3 : Int) ≤ 9), true), (decide (nS (pS g s) < 0), true)]), .tup [iv 0, .ff]) := by cases g <;> kernel_rfl
theorem rn_e (g : Bool) (s : ByteArray) : T.path (wN g ++ [true, true, true, false, true, true, false, g]) (T.anon (rnuX [.s (.str s)])) = some (hN g s (pS g s) ++ (ptN (pS g s) false ++ [(invC okPd (pdS (pS g s)) ⟨tS (pS g s)⟩, true), (decide ((3 : Int) ≤ 9), true), (decide (nS (pS g s) < 0), false), (gS s, g)]), .tup [iv (sgN g (W (W (nS (pS g s) * 1000) + dgI (L8 (ePd (pdS (pS g s)) (tS (pS g s)))) 3))), .tt]) := by cases g <;> kernel_rfl
theorem natL_noughts (l : List UInt8) : ∀ j : Nat, natL (l ++ List.replicate j 48) = natL l * 10 ^ j
  | 0 => by rw [List.replicate_zero, List.append_nil, Int.pow_zero, Int.mul_one]
  | j + 1 => by
    rw [List.replicate_succ', ← List.append_assoc, natL_snoc, natL_noughts l j, Int.pow_succ, ← Int.mul_assoc]
    show _ + (48 - 48) = _
    omega
theorem decPd_self (p : PPd) (a : APd) : decPd (vsPd p a) (bsPd p a) = some (p, a) := by cases p; cases a; rfl
theorem FPd_inj {p : PPd} {a b : APd} (h : FPd p a = FPd p b) : a = b := by
  have e1 : vsPd p a = vsPd p b := congrArg (fun s : St => s.tmps.map Prod.snd) h
  have e2 : bsPd p a = bsPd p b := congrArg (fun s : St => s.heap.map Prod.snd) h
  have := decPd_self p a
  rw [e1, e2, decPd_self p b] at this
  cases this; rfl
/-- noughts put behind, up to three digits -/
theorem pd_end {p : PPd} {t : ByteArray} (h : t.size ≤ 3) : invC okPd p ⟨t⟩ = true ∧ L8 (ePd p t) = L8 t ++ List.replicate (3 - t.size) 48 := by
  have h0 : okPd p ⟨t⟩ := h
  obtain ⟨k1, k2, k3⟩ := endW_says (nxt := nxtC okPd goPd rdPd FPd muPd p) (I := fun a => okPd p a) (μ := muPd p) (fun a b _ e => (nxtC_some e).2.2) h0
  have g : goPd p (endW (nxtC okPd goPd rdPd FPd muPd p) ⟨t⟩) = false := nxtC_none stepPd k1 k2
  have g : decide (((ePd p t).size : Int) < 3) = false := g
  have g : ¬ ((ePd p t).size : Int) < 3 := of_decide_eq_false g
  have k1 : (ePd p t).size ≤ 3 := k1
  obtain ⟨j, hj⟩ := k3 (fun a => ∃ j, L8 a.t = L8 t ++ List.replicate j 48) ⟨0, by rw [List.replicate_zero, List.append_nil]⟩ (by
    rintro a b ha ⟨j, hj⟩ e
    obtain ⟨eg, es⟩ := nxtC_some e
    obtain ⟨h1, -, -⟩ := pd_on ha eg
    have hb : b = ⟨a.t ++ zeB⟩ := FPd_inj (congrArg Prod.snd (Option.some.inj (es.1.symm.trans h1)))
    refine ⟨j + 1, ?_⟩
    rw [hb]
    show L8 (a.t ++ zeB) = _
    rw [L8_append, hj, List.replicate_succ', ← List.append_assoc]
    rfl)
  have hj : L8 (ePd p t) = L8 t ++ List.replicate j 48 := hj
  have hz := congrArg List.length hj
  rw [List.length_append, List.length_replicate, L8_len, L8_len] at hz
  refine ⟨invC_is h0, ?_⟩
  rw [hj, show j = 3 - t.size by omega]
end Go.Proofs.YtdangjhbkffbnaaDoor.Txt

/- Layer 4: the document's Number: contract. -/
namespace Go.Proofs.YtdangjhbkffbnaaDoor.Txt
open Go.Eng Go.RowKit
set_option linter.unusedVariables false
set_option linter.unusedSimpArgs false
set_option maxRecDepth 100000
theorem ext_L8 (s : ByteArray) (a b : Nat) : L8 (s.extract a b) = ((L8 s).drop a).take (b - a) := by
  unfold L8
  rw [ByteArray.data_extract, Array.toList_extract, List.extract_eq_take_drop]
theorem idx_none (c : UInt8) : ∀ (l : List UInt8), (∀ b ∈ l, b ≠ c) → idxF l [c] = none
  | [], _ => rfl
  | b :: l, h => by
    unfold idxF
    rw [pre_one, if_neg (by rw [beq_iff_eq]; exact fun q => h b List.mem_cons_self q.symm), idx_none c l (fun b hb => h b (List.mem_cons_of_mem _ hb))]
    rfl
theorem sign_is {g : Bool} {s : ByteArray} (h : gS s = g) : Lib.hasPrefix (L8 s) [45] = g ∧ Lib.trimPrefix (L8 s) [45] = L8 (s1S g s) ∧ fS s = true ∧ (g = true → c1S s = true) := by
  have e8 := L8_len s
  have hb := byteAt_L8 s 0
  have ex := ext_L8 s (Int.toNat 1) (Int.toNat (s.size : Int))
  have e0 : (0 : Int).toNat = 0 := rfl
  rw [e0] at hb
  have hp : Lib.hasPrefix (L8 s) [45] = g := by
    rw [← h]
    unfold Lib.hasPrefix gS
    cases hl : L8 s with
    | nil =>
      rw [hl] at e8
      have e8 : 0 = s.size := e8
      rw [decide_eq_false (by omega)]; rfl
    | cons b t =>
      rw [hl] at e8 hb
      rw [List.length_cons] at e8
      rw [decide_eq_true (show (0 : Int) < (s.size : Int) by omega), hb, pre_one]
      show (45 == b) = (((b.toNat : Nat) : Int) == 45)
      rw [Bool.eq_iff_iff, beq_iff_eq, beq_iff_eq]
      exact ⟨fun q => by rw [← q]; rfl, fun q => (UInt8.toNat_inj.1 (by show b.toNat = 45; omega)).symm⟩
  refine ⟨hp, ?_, ?_, ?_⟩
  · unfold Lib.trimPrefix
    rw [hp]
    cases g with
    | false => rfl
    | true =>
      rw [if_pos rfl]
      show (L8 s).drop 1 = L8 (s.extract (Int.toNat 1) (Int.toNat (s.size : Int)))
      rw [extract_L8]
  · unfold fS
    by_cases q : (0 : Int) < (s.size : Int)
    · rw [decide_eq_true q]; rfl
    · rw [decide_eq_false q]; rfl
  · rintro rfl
    unfold gS at h
    unfold c1S
    by_cases q : (0 : Int) < (s.size : Int)
    · rw [decide_eq_true (show (1 : Int) ≤ (s.size : Int) by omega), decide_eq_true (Int.le_refl _)]; rfl
    · rw [decide_eq_false q] at h; cases h
theorem po_end {p : PPo} (hs : p.s.size ≤ 1000000) : invC okPo p ⟨(p.s.size : Int), 0⟩ = true ∧ ((oS p = (p.s.size : Int) ∧ cutF (L8 p.s) [46] = (L8 p.s, [], false) ∧ L8 (dS p) = L8 p.s) ∨ (0 ≤ oS p ∧ oS p < (p.s.size : Int) ∧ cutF (L8 p.s) [46] = (L8 (dS p), L8 (tS p), true))) := by
  have h0 : okPo p ⟨(p.s.size : Int), 0⟩ := ⟨hs, Int.le_refl _, by show (0 : Int) ≤ (p.s.size : Int); omega, .inl ⟨rfl, fun b hb => by
    have hb : b ∈ (L8 p.s).take 0 := hb
    simp at hb⟩⟩
  refine ⟨invC_is h0, ?_⟩
  obtain ⟨k1, k2⟩ := endC stepPo h0
  generalize hE : endW (nxtC okPo goPo rdPo FPo muPo p) ⟨(p.s.size : Int), 0⟩ = e at k1 k2
  have ho : oS p = e.o := by unfold oS; rw [hE]
  obtain ⟨-, i0, i1, c⟩ := k1
  have e0 : (0 : Int).toNat = 0 := rfl
  rcases c with ⟨c1, c2⟩ | ⟨c1, c2, c3, c4⟩
  · left
    have hi : e.i = (p.s.size : Int) := by
      unfold goPo at k2
      by_cases q : e.i < (p.s.size : Int)
      · rw [decide_eq_true q, c1] at k2
        have k2 : ((p.s.size : Int) == (p.s.size : Int)) = false := k2
        rw [beq_self_eq_true] at k2; cases k2
      · omega
    rw [hi, show ((p.s.size : Int)).toNat = (L8 p.s).length by rw [L8_len]; omega, List.take_length] at c2
    refine ⟨ho.trans c1, ?_, ?_⟩
    · unfold cutF
      rw [idx_none 46 _ c2]
    · unfold dS
      rw [ho, c1, ext_L8, e0, List.drop_zero, Nat.sub_zero, show ((p.s.size : Int)).toNat = (L8 p.s).length by rw [L8_len]; omega, List.take_length]
  · right
    refine ⟨by omega, by omega, ?_⟩
    have hl : e.o.toNat < (L8 p.s).length := by rw [L8_len]; omega
    have ex : (L8 p.s)[e.o.toNat] = 46 := by
      rw [← c3, List.getD_eq_getElem?_getD, List.getElem?_eq_getElem hl]; rfl
    have hd : L8 (dS p) = (L8 p.s).take e.o.toNat := by
      unfold dS
      rw [ho, ext_L8, e0, List.drop_zero, Nat.sub_zero]
    have hn := L8_len p.s
    have htt : L8 (tS p) = (L8 p.s).drop (e.o.toNat + 1) := by
      unfold tS
      rw [ho, Wi (by omega) (by omega), ext_L8, show (e.o + 1).toNat = e.o.toNat + 1 by omega]
      refine List.take_of_length_le ?_
      rw [List.length_drop]; omega
    have hsp : L8 p.s = (L8 p.s).take e.o.toNat ++ 46 :: (L8 p.s).drop (e.o.toNat + 1) := by
      rw [← ex, ← List.drop_eq_getElem_cons hl, List.take_append_drop]
    rw [hd, htt]
    conv => lhs; rw [hsp]
    exact cut_one 46 _ _ c4
end Go.Proofs.YtdangjhbkffbnaaDoor.Txt

/- Layer 4: the document's Number: contract. -/
namespace Go.Proofs.YtdangjhbkffbnaaDoor.Txt
open Go.Eng Go.RowKit
set_option linter.unusedVariables false
set_option linter.unusedSimpArgs false
set_option maxRecDepth 100000
theorem numV_no {l : List UInt8} (h : numF l = none) : numV l = .tup [iv 0, .s (.bool false)] := by unfold numV; rw [h]; rfl
theorem numV_yes {l : List UInt8} {x : Int} (h : numF l = some x) : numV l = .tup [iv x, .s (.bool true)] := by unfold numV; rw [h]; rfl
theorem dgI_yes {l : List UInt8} {k : Nat} (hk : k ≤ 9) (h : natO l k = true) : dgI l k = natL l ∧ 0 ≤ natL l ∧ natL l < 1000000000 := by
  obtain ⟨h1, h2, h3, h4, -⟩ := natO_is h
  refine ⟨by unfold dgI; rw [h]; rfl, h3, ?_⟩
  have hq : (10 : Int) ^ l.length ≤ 10 ^ 9 := by
    have : (10 : Nat) ^ l.length ≤ 10 ^ 9 := Nat.pow_le_pow_right (by decide) (by omega)
    exact_mod_cast this
  have hq9 : (10 : Int) ^ 9 = 1000000000 := by decide
  omega
theorem dgI_no {l : List UInt8} {k : Int} (h : natO l k = false) : dgI l k = -1 := by unfold dgI; rw [h]; rfl
theorem sgN_is (g : Bool) {x : Int} (h0 : 0 ≤ x) (h1 : x < 10000000000000) : sgN g x = bif g then -x else x := by
  cases g with
  | false => rfl
  | true =>
    show W (0 - x) = -x
    rw [Wi (by omega) (by omega)]; omega
theorem s1S_size (g : Bool) (s : ByteArray) : (s1S g s).size ≤ s.size := by
  cases g with
  | false => exact Nat.le_refl _
  | true =>
    show (s.extract (Int.toNat 1) (Int.toNat (s.size : Int))).size ≤ _
    rw [← L8_len, extract_L8, List.length_drop, L8_len]; omega
theorem rnu_run {s : ByteArray} (hs : s.size ≤ 1000000) : ∃ v, (rnuX [.s (.str s)]).eval = some v ∧ flat v = true ∧ v.den nu0 = (numV (L8 s)).den nu0 := by
  rw [← T.eval_anon (t := rnuX _)]
  obtain ⟨g, hg⟩ : ∃ g, gS s = g := ⟨_, rfl⟩
  obtain ⟨e1, e2, e3, e4⟩ := sign_is hg
  have hz : (pS g s).s.size ≤ 1000000 := Nat.le_trans (s1S_size g s) hs
  obtain ⟨i1, c⟩ := po_end (p := pS g s) hz
  have e2 : Lib.trimPrefix (L8 s) [45] = L8 (pS g s).s := e2
  have hsl : (decide ((0 : Int) ≤ 0) && (decide (0 ≤ oS (pS g s)) && decide (oS (pS g s) ≤ ((pS g s).s.size : Int)))) = true := by
    rw [decide_eq_true (show 0 ≤ oS (pS g s) by omega), decide_eq_true (show oS (pS g s) ≤ ((pS g s).s.size : Int) by omega)]; rfl
  have hh : allSay (hN g s (pS g s)) := by
    refine ⟨e3, hg, allSay_append ?_ ⟨i1, hsl, by decide, trivial⟩⟩
    cases g with
    | false => trivial
    | true => exact ⟨e4 rfl, trivial⟩
  have w1 := rn_a g s
  have w2 := rn_b g s
  have w3 := rn_c g s
  have w4 := rn_d g s
  have w5 := rn_e g s
  have hnum : numF (L8 s) = numF (L8 s) := rfl
  conv at hnum => rhs; unfold numF
  rw [e1, e2] at hnum
  have hpd : pdS (pS g s) = pdS (pS g s) := rfl
  generalize pdS (pS g s) = d at *
  have hnS : nS (pS g s) = dgI (L8 (dS (pS g s))) 9 := rfl
  generalize hN g s (pS g s) = L at *
  rcases c with ⟨c1, c2, c3⟩ | ⟨c1, c2, c3⟩
  · rw [c2] at hnum
    rw [c3] at hnS
    have hlt : decide (oS (pS g s) < ((pS g s).s.size : Int)) = false := decide_eq_false (by omega)
    cases hO : natO (L8 (pS g s).s) 9 with
    | false =>
      have hn := dgI_no hO
      have hq : numF (L8 s) = none := by rw [hnum]; simp only [hO]; rfl
      refine ⟨_, T.path_eval w1 (allSay_append hh ⟨hlt, decide_eq_true (by omega), trivial⟩), rfl, ?_⟩
      rw [numV_no hq]; rfl
    | true =>
      obtain ⟨n1, n2, n3⟩ := dgI_yes (k := 9) (Nat.le_refl _) hO
      have hn : nS (pS g s) = natL (L8 (pS g s).s) := hnS.trans n1
      have hq : numF (L8 s) = some (bif g then -(natL (L8 (pS g s).s) * 1000) else natL (L8 (pS g s).s) * 1000) := by rw [hnum]; simp only [hO]; rfl
      refine ⟨_, T.path_eval w2 (allSay_append hh ⟨hlt, decide_eq_false (by omega), hg, trivial⟩), rfl, ?_⟩
      rw [numV_yes hq, hn, Wi (n := natL (L8 (pS g s).s) * 1000) (by omega) (by omega), Int.add_zero, Wi (by omega) (by omega), sgN_is g (by omega) (by omega)]
      rfl
  · rw [c3] at hnum
    have hp : ∀ b, decide (dgI (L8 (tS (pS g s))) 3 < 0) = b → allSay (ptN (pS g s) b) := fun b hb => ⟨decide_eq_true c2, by
      rw [Wi (by omega) (by omega), decide_eq_true (show 0 ≤ oS (pS g s) + 1 by omega), decide_eq_true (show oS (pS g s) + 1 ≤ ((pS g s).s.size : Int) by omega), decide_eq_true (Int.le_refl _)]; rfl, by decide, hb, trivial⟩
    cases hT : natO (L8 (tS (pS g s))) 3 with
    | false =>
      have ht := dgI_no hT
      have hq : numF (L8 s) = none := by
        rw [hnum]
        simp only [hT]
        split <;> rfl
      refine ⟨_, T.path_eval w3 (allSay_append hh (hp true (decide_eq_true (by omega)))), rfl, ?_⟩
      rw [numV_no hq]; rfl
    | true =>
      obtain ⟨t1, t2, t3⟩ := dgI_yes (k := 3) (by decide) hT
      have t1 : dgI (L8 (tS (pS g s))) 3 = natL (L8 (tS (pS g s))) := t1
      obtain ⟨l1, l2, -, l4, l5⟩ := natO_is (k := 3) hT
      rw [L8_len] at l1 l2
      obtain ⟨f1, f2⟩ := pd_end (p := d) (t := tS (pS g s)) l2
      have hf := hp false (decide_eq_false (by omega))
      cases hO : natO (L8 (dS (pS g s))) 9 with
      | false =>
        have hn := dgI_no hO
        have hq : numF (L8 s) = none := by rw [hnum]; simp only [hO]; rfl
        refine ⟨_, T.path_eval w4 (allSay_append hh (allSay_append hf ⟨f1, by decide, decide_eq_true (by omega), trivial⟩)), rfl, ?_⟩
        rw [numV_no hq]; rfl
      | true =>
        obtain ⟨n1, n2, n3⟩ := dgI_yes (k := 9) (Nat.le_refl _) hO
        have hn : nS (pS g s) = natL (L8 (dS (pS g s))) := hnS.trans n1
        have hlen : (L8 (ePd d (tS (pS g s)))).length = 3 := by
          rw [f2, List.length_append, List.length_replicate, L8_len]; omega
        have hall : natO (L8 (ePd d (tS (pS g s)))) 3 = true := natO_of (by omega) (by omega) (by
          intro b hb
          rw [f2] at hb
          rcases List.mem_append.1 hb with q | q
          · exact l5 b q
          · rw [List.eq_of_mem_replicate q]; decide)
        obtain ⟨m1, m2, m3⟩ := dgI_yes (k := 3) (by decide) hall
        have m1 : dgI (L8 (ePd d (tS (pS g s)))) 3 = natL (L8 (ePd d (tS (pS g s)))) := m1
        have hm : natL (L8 (ePd d (tS (pS g s)))) = natL (L8 (tS (pS g s))) * 10 ^ (3 - (L8 (tS (pS g s))).length) := by
          rw [f2, natL_noughts, L8_len]
        have hq : numF (L8 s) = some (bif g then -(natL (L8 (dS (pS g s))) * 1000 + natL (L8 (tS (pS g s))) * 10 ^ (3 - (L8 (tS (pS g s))).length)) else natL (L8 (dS (pS g s))) * 1000 + natL (L8 (tS (pS g s))) * 10 ^ (3 - (L8 (tS (pS g s))).length)) := by
          rw [hnum]; simp only [hO, hT]; rfl
        refine ⟨_, T.path_eval w5 (allSay_append hh (allSay_append hf ⟨f1, by decide, decide_eq_false (by omega), hg, trivial⟩)), rfl, ?_⟩
        rw [← hm] at hq
        rw [numV_yes hq, hn, m1, Wi (n := natL (L8 (dS (pS g s))) * 1000) (by omega) (by omega), Wi (by omega) (by omega), sgN_is g (by omega) (by omega)]
        rfl
def rnuS : Eng.Spec
  | [.s (.str s)] => .ite none (decide (s.size ≤ 1000000)) (.ret (numV (L8 s))) .fail
  | _ => .fail
theorem rnuS_ok : SpecOk Tryd.prog 10 rnuS := rnuX_ok.of_den fun args v hfl h => by
  clear hfl
  unfold rnuS at h
  split at h
  · rename_i s
    obtain ⟨hb, h⟩ := ite_T' h
    obtain rfl := Option.some.inj h
    obtain ⟨v, h1, h2, h3⟩ := rnu_run (of_decide_eq_true hb)
    exact ⟨v, h1, ⟨h2, rfl⟩, h3⟩
  · cases h
end Go.Proofs.YtdangjhbkffbnaaDoor.Txt

/- Layer 4: the document's line: run. -/
namespace Go.Proofs.YtdangjhbkffbnaaDoor.Txt
open Go.Eng Go.RowKit
set_option linter.unusedVariables false
set_option linter.unusedSimpArgs false
set_option maxRecDepth 100000
noncomputable def L0 : Cfg := ⟨Tryd.prog, lookG [(44, .val nmsR), (43, .val thiR), (10, .val rnuS), (29, .val dgtS)], [], 0⟩
theorem L0_ok : L0.Ok := Cfg.ok ⟨nmsR_ok, thiR_ok, rnuS_ok, dgtS_ok, trivial⟩ trivial
noncomputable def linX : Eng.Spec := execS L0 (rounds L0 21 1) 34
theorem linX_ok : SpecOk Tryd.prog 34 linX := execS_rounds L0_ok mixed 21 1 Tryd.func34 (by kernel_rfl) (by kernel_rfl)
def preB (k : Nat) : ByteArray := nmK k ++ clB
def misK (s : ByteArray) (k : Nat) : Bool := bif decide ((s.size : Int) < ((preB k).size : Int)) then true else !(s.extract (Int.toNat 0) (Int.toNat ((preB k).size : Int))).toList == (preB k).toList
def inK (s : ByteArray) (k : Nat) : Bool := bif decide ((s.size : Int) < ((preB k).size : Int)) == false && true then decide ((0 : Int) ≤ 0) && (decide ((0 : Int) ≤ ((preB k).size : Int)) && decide (((preB k).size : Int) ≤ (s.size : Int))) else true
def rsK (s : ByteArray) (k : Nat) : ByteArray := s.extract (Int.toNat ((preB k).size : Int)) (Int.toNat (s.size : Int))
def mhK (s : ByteArray) (c : Bool) (k : Nat) : List (Bool × Bool) := [(over ((nmK k).size + clB.size), false), (inK s k, true), (misK s k, c)]
def slK (s : ByteArray) (k : Nat) : Bool := decide ((0 : Int) ≤ ((preB k).size : Int)) && (decide (((preB k).size : Int) ≤ (s.size : Int)) && decide ((s.size : Int) ≤ (s.size : Int)))
def hitK (s : ByteArray) (k : Nat) (c : Bool) : List (Bool × Bool) := (thin k, thin k) :: (slK s k, true) :: (bif thin k then [(decide ((rsK s k).size ≤ 1000000), true), ((numF (L8 (rsK s k))).isSome, c)] else [(decide ((6 : Int) ≤ 9), true), (decide (0 ≤ dgI (L8 (rsK s k)) 6), c)])
def vlK (s : ByteArray) (k : Nat) : Int := bif thin k then (numF (L8 (rsK s k))).getD 0 else dgI (L8 (rsK s k)) 6
def wdL (k : Nat) (c : Bool) : List Bool := (List.range k).flatMap (fun _ => [false, true, true]) ++ [false, true, false, thin k, true, true, c]
theorem lin_x (s : ByteArray) : T.path ((List.range 20).flatMap fun _ => [false, true, true]) (T.anon (linX [.s (.str s)])) = some ((List.range 20).flatMap (mhK s true), .tup [iv (-1), iv 0]) := by kernel_rfl
theorem lin_y (s : ByteArray) : ∀ k : Nat, k < 20 → T.path (wdL k true) (T.anon (linX [.s (.str s)])) = some ((List.range k).flatMap (mhK s true) ++ (mhK s false k ++ hitK s k true), .tup [iv (k : Int), iv (vlK s k)])
  | 0, _ => by kernel_rfl
  | 1, _ => by kernel_rfl
  | 2, _ => by kernel_rfl
  | 3, _ => by kernel_rfl
  | 4, _ => by kernel_rfl
  | 5, _ => by kernel_rfl
  | 6, _ => by kernel_rfl
  | 7, _ => by kernel_rfl
  | 8, _ => by kernel_rfl
  | 9, _ => by kernel_rfl
  | 10, _ => by kernel_rfl
  | 11, _ => by kernel_rfl
  | 12, _ => by kernel_rfl
  | 13, _ => by kernel_rfl
  | 14, _ => by kernel_rfl
  | 15, _ => by kernel_rfl
  | 16, _ => by kernel_rfl
  | 17, _ => by kernel_rfl
  | 18, _ => by kernel_rfl
  | 19, _ => by kernel_rfl
  | k + 20, h => by omega
/-- the names that are asked behind one whose number is none -/
def bhK (k : Nat) : List Nat := bif thin k then [] else List.range' (k + 1) (19 - k)
theorem lin_n (s : ByteArray) : ∀ k : Nat, k < 20 → T.path (wdL k false ++ (bhK k).flatMap fun _ => [false, true, true]) (T.anon (linX [.s (.str s)])) = some ((List.range k).flatMap (mhK s true) ++ (mhK s false k ++ (hitK s k false ++ (bhK k).flatMap (mhK s true))), .tup [iv (-1), iv 0])
  | 0, _ => by kernel_rfl
  | 1, _ => by kernel_rfl
  | 2, _ => by kernel_rfl
  | 3, _ => by kernel_rfl
  | 4, _ => by kernel_rfl
  | 5, _ => by kernel_rfl
  | 6, _ => by kernel_rfl
  | 7, _ => by kernel_rfl
  | 8, _ => by kernel_rfl
  | 9, _ => by kernel_rfl
  | 10, _ => by kernel_rfl
  | 11, _ => by kernel_rfl
  | 12, _ => by kernel_rfl
  | 13, _ => by kernel_rfl
  | 14, _ => by kernel_rfl
  | 15, _ => by kernel_rfl
  | 16, _ => by kernel_rfl
  | 17, _ => by kernel_rfl
  | 18, _ => by kernel_rfl
  | 19, _ => by kernel_rfl
  | k + 20, h => by omega
end Go.Proofs.YtdangjhbkffbnaaDoor.Txt

/- Layer 4: the document's line: contract. -/
namespace Go.Proofs.YtdangjhbkffbnaaDoor.Txt
open Go.Eng Go.RowKit
set_option linter.unusedVariables false
set_option linter.unusedSimpArgs false
set_option maxRecDepth 100000
theorem clB_L8 : L8 clB = [58, 32] := rfl
theorem preB_L8 (k : Nat) : L8 (preB k) = L8 (nmK k) ++ [58, 32] := by
  unfold preB
  rw [L8_append, clB_L8]
theorem preB_size (k : Nat) : (preB k).size = (L8 (nmK k)).length + 2 := by
  rw [← L8_len, preB_L8, List.length_append]; rfl
theorem ext_take (s : ByteArray) (n : Nat) : L8 (s.extract (Int.toNat 0) (Int.toNat ((n : Nat) : Int))) = (L8 s).take n := by
  have e0 : Int.toNat 0 = 0 := rfl
  have e1 : Int.toNat ((n : Nat) : Int) = n := Int.toNat_natCast n
  rw [e0, e1]
  unfold L8
  rw [ByteArray.data_extract, Array.toList_extract, List.extract_eq_take_drop]
  rfl
theorem ext_drop (s : ByteArray) (n : Nat) : L8 (s.extract (Int.toNat ((n : Nat) : Int)) (Int.toNat (s.size : Int))) = (L8 s).drop n := by
  have e1 : Int.toNat ((n : Nat) : Int) = n := Int.toNat_natCast n
  have e2 : Int.toNat (s.size : Int) = s.size := Int.toNat_natCast _
  rw [e1, e2]
  unfold L8
  rw [ByteArray.data_extract, Array.toList_extract, List.extract_eq_take_drop]
  apply List.take_of_length_le
  rw [List.length_drop, Array.length_toList]
  exact Nat.le_refl _
theorem idx_split : ∀ (l : List UInt8) (i : Nat), idxF l [58, 32] = some i → l = l.take i ++ 58 :: 32 :: l.drop (i + 2)
  | [], i, h => by cases h
  | b :: l, i, h => by
    unfold idxF at h
    split at h
    · rename_i hp
      obtain rfl := Option.some.inj h
      rw [pre_cons, Bool.and_eq_true, beq_iff_eq] at hp
      obtain ⟨rfl, hp⟩ := hp
      cases l with
      | nil => cases hp
      | cons c l =>
        rw [pre_one, beq_iff_eq] at hp
        subst hp
        rfl
    · obtain ⟨j, hj, rfl⟩ := Option.map_eq_some_iff.1 h
      have := idx_split l j hj
      show b :: l = b :: (l.take j ++ 58 :: 32 :: l.drop (j + 2))
      rw [← this]
/-- how a line with a colon is cut -/
theorem cut_ok {s : ByteArray} (h : OKc s = true) : L8 s = L8 (NAM s) ++ 58 :: 32 :: L8 (VAL s) := by
  unfold NAM VAL
  unfold OKc at h
  rw [L8_byA, L8_byA]
  unfold cutF at *
  cases hi : idxF (L8 s) [58, 32] with
  | none => rw [hi] at h; cases h
  | some i => exact idx_split _ _ hi
theorem nm_58 {k : Nat} (hk : k < 20) : ∀ b ∈ L8 (nmK k), b ≠ 58 := fun b hb => ((nm_is hk).1 b hb).2.2.1
theorem cut_of {s : ByteArray} {k : Nat} (hk : k < 20) {t : List UInt8} (h : L8 s = L8 (nmK k) ++ 58 :: 32 :: t) : OKc s = true ∧ NAM s = nmK k ∧ VAL s = byA t := by
  have c := cut_two (L8 (nmK k)) t (nm_58 hk)
  rw [← h] at c
  unfold OKc NAM VAL
  rw [c]
  exact ⟨rfl, byA_L8 _, rfl⟩
theorem mis_is (s : ByteArray) {k : Nat} (hk : k < 20) : misK s k = !(OKc s && eB (NAM s) (nmK k)) := by
  unfold misK
  have hq : (OKc s && eB (NAM s) (nmK k)) = true → L8 s = L8 (preB k) ++ L8 (VAL s) := by
    intro h
    rw [Bool.and_eq_true, eB_is] at h
    rw [preB_L8, ← h.2]
    have := cut_ok h.1
    rw [List.append_assoc]
    exact this
  by_cases hs : (s.size : Int) < ((preB k).size : Int)
  · rw [decide_eq_true hs]
    cases hb : OKc s && eB (NAM s) (nmK k) with
    | false => rfl
    | true =>
      exfalso
      have := congrArg List.length (hq hb)
      rw [List.length_append, L8_len, L8_len, L8_len] at this
      omega
  · rw [decide_eq_false hs]
    show (!eB (s.extract (Int.toNat 0) (Int.toNat ((preB k).size : Int))) (preB k)) = _
    congr 1
    rw [Bool.eq_iff_iff, eB_is]
    constructor
    · intro h
      have h := congrArg L8 h
      rw [ext_take, preB_L8] at h
      have e : L8 s = L8 (nmK k) ++ 58 :: 32 :: (L8 s).drop (preB k).size := by
        conv => lhs; rw [← List.take_append_drop (preB k).size (L8 s), h]
        rw [List.append_assoc]; rfl
      obtain ⟨h1, h2, -⟩ := cut_of hk e
      rw [h1, h2, show eB (nmK k) (nmK k) = true from eB_is.2 rfl]; rfl
    · intro h
      apply of_L8
      rw [ext_take, hq h, ← L8_len (preB k), List.take_left]
theorem rs_is {s : ByteArray} {k : Nat} (h1 : OKc s = true) (h2 : NAM s = nmK k) : rsK s k = VAL s := by
  apply of_L8
  unfold rsK
  rw [ext_drop, preB_size]
  have := cut_ok h1
  rw [h2] at this
  conv => lhs; rw [this]
  rw [← List.drop_drop, List.drop_left]
  rfl
theorem inK_is (s : ByteArray) (k : Nat) : inK s k = true := by
  unfold inK
  by_cases hs : (s.size : Int) < ((preB k).size : Int)
  · rw [decide_eq_true hs]; rfl
  · rw [decide_eq_false hs, decide_eq_true (Int.le_refl 0), decide_eq_true (show (0 : Int) ≤ ((preB k).size : Int) by omega), decide_eq_true (show ((preB k).size : Int) ≤ (s.size : Int) by omega)]; rfl
theorem mh_say {s : ByteArray} {k : Nat} {c : Bool} (h : misK s k = c) : allSay (mhK s c k) := by
  have h9 := nmK_size k
  have h2 : clB.size = 2 := rfl
  exact ⟨over_no (by omega), inK_is s k, h, trivial⟩
theorem mh_all {s : ByteArray} (l : List Nat) (h : ∀ k ∈ l, misK s k = true) : allSay (l.flatMap (mhK s true)) := by
  induction l with
  | nil => exact trivial
  | cons a r ih => exact allSay_append (mh_say (h a List.mem_cons_self)) (ih fun i hi => h i (List.mem_cons_of_mem _ hi))
/-- what a line says: which part, and its value -/
def linF (s : ByteArray) : Option (Nat × Int) := bif OKc s then (match prtI (NAM s) with
  | none => none
  | some k => bif qK k (VAL s) then some (k, vK k (VAL s)) else none) else none
def linI (s : ByteArray) : Int := match linF s with
  | none => -1
  | some x => (x.1 : Int)
def linW (s : ByteArray) : Int := match linF s with
  | none => 0
  | some x => x.2
theorem lin_none {s : ByteArray} (h : linF s = none) : linI s = -1 ∧ linW s = 0 := by unfold linI linW; rw [h]; exact ⟨rfl, rfl⟩
theorem lin_some {s : ByteArray} {k : Nat} {x : Int} (h : linF s = some (k, x)) : linI s = (k : Int) ∧ linW s = x := by unfold linI linW; rw [h]; exact ⟨rfl, rfl⟩
theorem nm_eq {j k : Nat} (hj : j < 20) (hk : k < 20) (h : nmK j = nmK k) : j = k := by
  rcases Nat.lt_trichotomy j k with q | q | q
  · have := nm_ne hk q
    rw [h, show eB (nmK k) (nmK k) = true from eB_is.2 rfl] at this
    cases this
  · exact q
  · have := nm_ne hj q
    rw [h, show eB (nmK k) (nmK k) = true from eB_is.2 rfl] at this
    cases this
theorem bh_mem {j k : Nat} (h : j ∈ bhK k) : k < j ∧ (k < 20 → j < 20) := by
  unfold bhK at h
  cases ht : thin k with
  | true => rw [ht] at h; cases h
  | false =>
    rw [ht] at h
    have h : j ∈ List.range' (k + 1) (19 - k) := h
    rw [List.mem_range'_1] at h
    exact ⟨by omega, fun _ => by omega⟩
theorem lin_run {s : ByteArray} (hs : s.size ≤ 1000000) : (linX [.s (.str s)]).eval = some (.tup [iv (linI s), iv (linW s)]) := by
  rw [← T.eval_anon (t := linX _)]
  have off : (∀ k, k < 20 → misK s k = true) → linF s = none → (T.anon (linX [.s (.str s)])).eval = some (.tup [iv (linI s), iv (linW s)]) := by
    intro h hn
    obtain ⟨e1, e2⟩ := lin_none hn
    rw [e1, e2]
    have way := lin_x s
    have ha : allSay ((List.range 20).flatMap (mhK s true)) := mh_all _ fun k hk => h k (List.mem_range.1 hk)
    generalize (List.range 20).flatMap (mhK s true) = L at way ha
    generalize ((List.range 20).flatMap fun _ => [false, true, true]) = W at way
    exact T.path_eval way ha
  cases ho : OKc s with
  | false => exact off (fun k hk => by rw [mis_is s hk, ho]; rfl) (by unfold linF; rw [ho]; rfl)
  | true =>
    cases hp : prtI (NAM s) with
    | none => exact off (fun k hk => by rw [mis_is s hk, prtI_none hp k hk, ho]; rfl) (by unfold linF; rw [ho, hp]; rfl)
    | some k =>
      obtain ⟨hk, he, hj⟩ := prtI_some hp
      have hn : NAM s = nmK k := eB_is.1 he
      have hr : rsK s k = VAL s := rs_is ho hn
      have hl : linF s = bif qK k (VAL s) then some (k, vK k (VAL s)) else none := by unfold linF; rw [ho, hp]; rfl
      have m0 : misK s k = false := by rw [mis_is s hk, ho, he]; rfl
      have m1 : ∀ j, j < 20 → j ≠ k → misK s j = true := by
        intro j hj hjk
        rw [mis_is s hj, ho, hn]
        cases hq : eB (nmK k) (nmK j) with
        | false => rfl
        | true => exact absurd (nm_eq hk hj (eB_is.1 hq)).symm hjk
      have ha : allSay ((List.range k).flatMap (mhK s true)) := mh_all _ fun j hj => m1 j (by have := List.mem_range.1 hj; omega) (by have := List.mem_range.1 hj; omega)
      have hb : allSay ((bhK k).flatMap (mhK s true)) := mh_all _ fun j hj => m1 j ((bh_mem hj).2 hk) (by have := (bh_mem hj).1; omega)
      have hc := mh_say m0
      have hsz : (VAL s).size ≤ 1000000 := by
        have := congrArg List.length (cut_ok ho)
        rw [List.length_append, List.length_cons, List.length_cons, L8_len, L8_len, L8_len] at this
        omega
      have hsl : slK s k = true := by
        have := congrArg List.length (cut_ok ho)
        rw [hn, List.length_append, List.length_cons, List.length_cons, L8_len, L8_len, ← L8_len (nmK k)] at this
        have hp := preB_size k
        unfold slK
        rw [decide_eq_true (show (0 : Int) ≤ ((preB k).size : Int) by omega), decide_eq_true (show ((preB k).size : Int) ≤ (s.size : Int) by omega), decide_eq_true (Int.le_refl _)]; rfl
      have hh : ∀ c, qK k (VAL s) = c → allSay (hitK s k c) := by
        intro c hq
        unfold hitK
        refine ⟨rfl, hsl, ?_⟩
        rw [hr]
        unfold qK at hq
        cases ht : thin k with
        | true =>
          rw [ht] at hq
          exact ⟨decide_eq_true hsz, hq, trivial⟩
        | false =>
          rw [ht] at hq
          have hq : natO (L8 (VAL s)) 6 = c := hq
          refine ⟨by decide, ?_, trivial⟩
          cases c with
          | true =>
            obtain ⟨d1, d2, -⟩ := dgI_yes (k := 6) (by decide) hq
            have d1 : dgI (L8 (VAL s)) 6 = natL (L8 (VAL s)) := d1
            rw [d1]; exact decide_eq_true d2
          | false => rw [dgI_no hq]; rfl
      cases hq : qK k (VAL s) with
      | true =>
        rw [hq] at hl
        obtain ⟨e1, e2⟩ := lin_some hl
        have ev : vlK s k = vK k (VAL s) := by
          unfold vlK vK
          rw [hr]
          unfold qK at hq
          cases ht : thin k with
          | true => rfl
          | false =>
            rw [ht] at hq
            have hq : natO (L8 (VAL s)) 6 = true := hq
            show dgI (L8 (VAL s)) 6 = natI (L8 (VAL s)) 6
            unfold dgI natI
            rw [hq]; rfl
        rw [e1, e2, ← ev]
        have way := lin_y s k hk
        have hd := hh true hq
        generalize (List.range k).flatMap (mhK s true) = L at way ha
        exact T.path_eval way (allSay_append ha (allSay_append hc hd))
      | false =>
        rw [hq] at hl
        obtain ⟨e1, e2⟩ := lin_none hl
        rw [e1, e2]
        have way := lin_n s k hk
        have hd := hh false hq
        generalize (List.range k).flatMap (mhK s true) = L at way ha
        generalize (bhK k).flatMap (mhK s true) = L' at way hb
        exact T.path_eval way (allSay_append ha (allSay_append hc (allSay_append hd hb)))
def linS : Eng.Spec
  | [.s (.str s)] => .ite none (decide (s.size ≤ 1000000)) (.ret (.tup [iv (linI s), iv (linW s)])) .fail
  | _ => .fail
theorem linS_ok : SpecOk Tryd.prog 34 linS := linX_ok.of_den fun args v hfl h => by
  clear hfl
  unfold linS at h
  split at h
  · rename_i s
    obtain ⟨hb, h⟩ := ite_T' h
    obtain rfl := Option.some.inj h
    exact ⟨_, lin_run (of_decide_eq_true hb), ⟨rfl, rfl⟩, rfl⟩
  · cases h
end Go.Proofs.YtdangjhbkffbnaaDoor.Txt

/- Layer 4: lines and blanks, in plain lists. -/
namespace Go.Proofs.YtdangjhbkffbnaaDoor.Txt
open Go.Eng Go.RowKit
set_option linter.unusedVariables false
set_option linter.unusedSimpArgs false
set_option maxRecDepth 100000
theorem dropW_all {c : UInt8} : ∀ (S X : List UInt8), (∀ b ∈ S, b = c) → dropW c (S ++ X) = dropW c X
  | [], X, _ => rfl
  | b :: S, X, h => by
    show dropW c (b :: (S ++ X)) = _
    rw [dropW, if_pos (h b List.mem_cons_self), dropW_all S X fun b hb => h b (List.mem_cons_of_mem _ hb)]
theorem dropW_keep {c b : UInt8} {X : List UInt8} (h : b ≠ c) : dropW c (b :: X) = b :: X := by rw [dropW, if_neg h]
/-- what is left between blanks -/
theorem trB_mid {S1 M S2 : List UInt8} (h1 : ∀ b ∈ S1, b = 32) (h2 : ∀ b ∈ S2, b = 32) (h : M = [] ∨ ((∃ a t, M = a :: t ∧ a ≠ 32) ∧ ∃ t b, M = t ++ [b] ∧ b ≠ 32)) : trB (S1 ++ (M ++ S2)) 32 = M := by
  have hr : ∀ X : List UInt8, trR X 32 = (dropW 32 X.reverse).reverse := fun X => by
    unfold trR
    rw [revF_is, revF_is, List.append_nil, List.append_nil]
  unfold trB
  rw [hr, List.reverse_append, List.reverse_append, List.append_assoc, dropW_all S2.reverse _ fun b hb => h2 b (List.mem_reverse.1 hb)]
  rcases h with rfl | ⟨⟨a, t, ha, ha'⟩, t', b, hb, hb'⟩
  · have : dropW 32 (([] : List UInt8).reverse ++ S1.reverse) = dropW 32 [] := by
      rw [List.reverse_nil, List.nil_append]
      have := dropW_all (c := 32) S1.reverse [] fun b hb => h1 b (List.mem_reverse.1 hb)
      rw [List.append_nil] at this; exact this
    rw [this]; rfl
  · have e : M.reverse = b :: t'.reverse := by rw [hb, List.reverse_append]; rfl
    rw [e]
    show dropW 32 (dropW 32 (b :: (t'.reverse ++ S1.reverse))).reverse = M
    rw [dropW_keep hb', show b :: (t'.reverse ++ S1.reverse) = (b :: t'.reverse) ++ S1.reverse from rfl, ← e, List.reverse_append, List.reverse_reverse, List.reverse_reverse, dropW_all S1 _ h1, ha, dropW_keep ha']
/-- a line ends at its first line feed -/
theorem cut_nl {R : List UInt8} {n : Nat} (h : ∀ b ∈ R.take n, b ≠ 10) (hn : R[n]? = some 10) : cutF R [10] = (R.take n, R.drop (n + 1), true) := by
  have hl := (List.getElem?_eq_some_iff.1 hn).1
  have e : R = R.take n ++ 10 :: R.drop (n + 1) := by
    conv => lhs; rw [← List.take_append_drop n R, List.drop_eq_getElem_cons hl]
    rw [List.getElem?_eq_getElem hl] at hn
    rw [Option.some.inj hn]
  have c := cut_one 10 (R.take n) (R.drop (n + 1)) h
  rw [← e] at c
  exact c
theorem cut_end {R : List UInt8} (h : ∀ b ∈ R, b ≠ 10) : cutF R [10] = (R, [], false) := by
  unfold cutF
  rw [idx_none 10 R h]
end Go.Proofs.YtdangjhbkffbnaaDoor.Txt

/- Layer 4: the document's Values and Made, as rows. -/
namespace Go.Proofs.YtdangjhbkffbnaaDoor.Txt
open Go.Eng Go.RowKit
set_option linter.unusedVariables false
set_option linter.unusedSimpArgs false
set_option maxRecDepth 100000
/-- settings as a row of numbers, and back -/
def cfL (c : Cf) : List Int := [c.target, c.util, c.stable, c.panic, c.grain, c.threshold, c.up, c.down, c.min, c.max, c.initial, c.grace, c.delay, c.burst, c.limit, c.queue, c.timeout, c.ready, c.subset, c.sample]
def cfO (l : List Int) : Cf := ⟨l.getD 0 0, l.getD 1 0, l.getD 2 0, l.getD 3 0, l.getD 4 0, l.getD 5 0, l.getD 6 0, l.getD 7 0, l.getD 8 0, l.getD 9 0, l.getD 10 0, l.getD 11 0, l.getD 12 0, l.getD 13 0, l.getD 14 0, l.getD 15 0, l.getD 16 0, l.getD 17 0, l.getD 18 0, l.getD 19 0⟩
theorem cfO_cfL (c : Cf) : cfO (cfL c) = c := by cases c; rfl
theorem cfL_len (c : Cf) : (cfL c).length = 20 := rfl
theorem cfL_set (c : Cf) (x : Int) : ∀ k : Nat, k < 20 → (cfL c).set k x = cfL (setC k x c)
  | 0, _ => rfl
  | 1, _ => rfl
  | 2, _ => rfl
  | 3, _ => rfl
  | 4, _ => rfl
  | 5, _ => rfl
  | 6, _ => rfl
  | 7, _ => rfl
  | 8, _ => rfl
  | 9, _ => rfl
  | 10, _ => rfl
  | 11, _ => rfl
  | 12, _ => rfl
  | 13, _ => rfl
  | 14, _ => rfl
  | 15, _ => rfl
  | 16, _ => rfl
  | 17, _ => rfl
  | 18, _ => rfl
  | 19, _ => rfl
  | k + 20, h => by omega
theorem val_run (c : Cf) : (valR [Conf.confV c]).eval = some (.row 2 (cL c) 0 20 20) := by kernel_rfl
def valS : Eng.Spec
  | [x] => Conf.asConf x fun c => .ret (.orow 2 [.int .i64] (cfL c))
  | _ => .fail
theorem cL_den (c : Cf) : denL nu0 (cL c) = rowsV [.int .i64] (cfL c) := rfl
theorem valS_ok : SpecOk Tryd.prog 33 valS := by
  refine ⟨valR_ok.body, fun args v xs w hG hrow hv hrv hh => ?_⟩
  unfold valS at hv
  split at hv
  · rename_i x
    obtain ⟨c, rfl, h2⟩ := Conf.asConf_some hv
    obtain rfl := Option.some.inj h2
    refine (valR_ok.calls [Conf.confV c] _ xs w hG hrow (val_run c) rfl hh).mono ?_
    rintro e w' ⟨y, rfl, ⟨b, hb, rfl, hg⟩, hw⟩
    refine ⟨_, rfl, ⟨rfl, .inr ⟨b, 0, 20, _, rfl, hb, hg, Nat.le_refl _, by simp [maxLen], ?_, ?_⟩⟩, hw⟩
    · simp only [List.size_toArray, denL_map, List.length_map]; exact Nat.le_refl _
    · rw [cL_den]; rfl
  · cases hv
noncomputable def madX : Eng.Spec := execS K0 noLoops 35
theorem madX_ok : SpecOk Tryd.prog 35 madX := execS_plain K0_ok mixed Tryd.func35 (by kernel_rfl) (by kernel_rfl)
def cdM (l : List Int) (k : Nat) : List (Bool × Bool) := [(decide ((0 : Int) ≤ ((k : Nat) : Int)) && (decide (((k : Nat) : Int) < ((l.length : Nat) : Int)) && decide (0 + Int.toNat ((k : Nat) : Int) < l.length)), true), (decide (0 + Int.toNat ((k : Nat) : Int) < l.length), true)]
theorem mad_w (l : List Int) : T.path ((List.range 20).flatMap fun _ => [true, true]) (T.anon (madX [.orow 2 [.int .i64] l])) = some ((List.range 20).flatMap (cdM l), Conf.confV (cfO l)) := by kernel_rfl
theorem mad_run {l : List Int} (h : l.length = 20) : (madX [.orow 2 [.int .i64] l]).eval = some (Conf.confV (cfO l)) := by
  rw [← T.eval_anon (t := madX _)]
  have ha : allSay ((List.range 20).flatMap (cdM l)) := by
    have : ∀ r : List Nat, (∀ k ∈ r, k < 20) → allSay (r.flatMap (cdM l)) := by
      intro r
      induction r with
      | nil => exact fun _ => trivial
      | cons a r ih =>
        intro hr
        have ha := hr a List.mem_cons_self
        refine allSay_append ⟨?_, ?_, trivial⟩ (ih fun k hk => hr k (List.mem_cons_of_mem _ hk))
        · rw [decide_eq_true (show (0 : Int) ≤ ((a : Nat) : Int) by omega), decide_eq_true (show ((a : Nat) : Int) < ((l.length : Nat) : Int) by omega), decide_eq_true (show 0 + Int.toNat ((a : Nat) : Int) < l.length by omega)]; rfl
        · exact decide_eq_true (by omega)
    exact this _ fun k hk => List.mem_range.1 hk
  have way := mad_w l
  generalize (List.range 20).flatMap (cdM l) = L at way ha
  generalize ((List.range 20).flatMap fun _ => [true, true]) = W at way
  exact T.path_eval way ha
def madS : Eng.Spec
  | [.orow t [.int .i64] l] => if t = 2 then .ite none (decide (List.length l = 20)) (.ret (Conf.confV (cfO l))) .fail else .fail
  | _ => .fail
theorem madS_ok : SpecOk Tryd.prog 35 madS := madX_ok.of_den fun args v hfl h => by
  clear hfl
  unfold madS at h
  split at h
  · rename_i t l
    split at h
    · rename_i ht
      subst ht
      obtain ⟨hb, h⟩ := ite_T' h
      obtain rfl := Option.some.inj h
      exact ⟨_, mad_run (of_decide_eq_true hb), ⟨rfl, rfl⟩, rfl⟩
    · cases h
  · cases h
noncomputable def G1 : Cfg := ⟨Tryd.prog, lookG [(33, .val valS), (35, .val madS), (34, .val linS), (36, .val Conf.mayS)], [], 0⟩
theorem G1_ok : G1.Ok := Cfg.ok ⟨valS_ok, madS_ok, linS_ok, Conf.refmay_ok, trivial⟩ trivial
end Go.Proofs.YtdangjhbkffbnaaDoor.Txt

/- Layer 4: the document's Parse: its loops. -/
namespace Go.Proofs.YtdangjhbkffbnaaDoor.Txt
open Go.Eng Go.RowKit
set_option linter.unusedVariables false
set_option linter.unusedSimpArgs false
set_option maxRecDepth 100000
noncomputable def lpO0 : Code := loopAt Tryd.prog 12 0
noncomputable def lpI1 : Code := (loopsIn lpO0).getD 0 .skip
noncomputable def lpI2 : Code := (loopsIn lpO0).getD 1 .skip
noncomputable def lpIa : Code := lpI1
structure PIa where (s : ByteArray) (n : Nat) (q : Nat) (k : Int) (i : Int) (b : Int) (c0 : Int) (c1 : Int) (c2 : Int) (c3 : Int) (c4 : Int) (c5 : Int) (c6 : Int) (c7 : Int) (c8 : Int) (c9 : Int) (c10 : Int) (c11 : Int) (c12 : Int) (c13 : Int) (c14 : Int) (c15 : Int) (c16 : Int) (c17 : Int) (c18 : Int) (c19 : Int) (z0 : Int) (z1 : Int) (z2 : Int) (z3 : Int) (z4 : Int) (z5 : Int) (z6 : Int) (z7 : Int) (z8 : Int) (z9 : Int) (z10 : Int) (z11 : Int) (z12 : Int) (z13 : Int) (z14 : Int) (z15 : Int) (z16 : Int) (z17 : Int) (z18 : Int) (z19 : Int) (v : List Int) (w : List Bool) (f : Int)
structure AIa where (a : Int)
abbrev SIa : List (Nat × Src) := [(0, .same), (8, .same), (16, .same), (24, .same)]
def vsIa (p : PIa) (a : AIa) : List V := [.s (.str p.s), .ptr 0 0, .ptr 8 0, .sub 16 1 0 p.n, .sub 24 1 0 p.q, iv p.k, iv p.i, iv a.a, iv p.b]
def bsIa (p : PIa) (a : AIa) : List Blk := [.cells 23 [iv p.c0, iv p.c1, iv p.c2, iv p.c3, iv p.c4, iv p.c5, iv p.c6, iv p.c7, iv p.c8, iv p.c9, iv p.c10, iv p.c11, iv p.c12, iv p.c13, iv p.c14, iv p.c15, iv p.c16, iv p.c17, iv p.c18, iv p.c19], .cells 23 [iv p.z0, iv p.z1, iv p.z2, iv p.z3, iv p.z4, iv p.z5, iv p.z6, iv p.z7, iv p.z8, iv p.z9, iv p.z10, iv p.z11, iv p.z12, iv p.z13, iv p.z14, iv p.z15, iv p.z16, iv p.z17, iv p.z18, iv p.z19], .lst true 2 [.int .i64] p.v, .lst true 4 [.bool] p.w]
noncomputable def FIa (p : PIa) (a : AIa) : St := mkSt [1,2,4,7,8,10,11,12,13] (keysR SIa) 5000 108 (vsIa p a) (bsIa p a)
noncomputable def rdIa (p : PIa) (a : AIa) : T (Ex × St) := T.anon (roundN G1 noLoops lpIa [1,2,4,7,8,10,11,12,13] SIa 5000 5000 (mkSt [1,2,4,7,8,10,11,12,13] (keysR SIa) 5000 108 (vsIa p a) (bsIa p a)))
def decIa_v0 : V → Option ((ByteArray))
  | .s (.str s) => some (s)
  | _ => none
theorem decIa_v0_ok (b : V) (x0 : (ByteArray)) (h : decIa_v0 b = some x0) : b = .s (.str (x0)) := by
  unfold decIa_v0 at h
  split at h
  · cases h
    rfl
  · cases h
def decIa_v1 : V → Option (Unit)
  | .ptr 0 0 => some ()
  | _ => none
theorem decIa_v1_ok (b : V) (x1 : Unit) (h : decIa_v1 b = some x1) : b = .ptr 0 0 := by
  unfold decIa_v1 at h
  split at h
  · cases h
    rfl
  · cases h
def decIa_v2 : V → Option (Unit)
  | .ptr 8 0 => some ()
  | _ => none
theorem decIa_v2_ok (b : V) (x2 : Unit) (h : decIa_v2 b = some x2) : b = .ptr 8 0 := by
  unfold decIa_v2 at h
  split at h
  · cases h
    rfl
  · cases h
def decIa_v3 : V → Option ((Nat))
  | .sub 16 1 0 n => some (n)
  | _ => none
theorem decIa_v3_ok (b : V) (x3 : (Nat)) (h : decIa_v3 b = some x3) : b = .sub 16 1 0 (x3) := by
  unfold decIa_v3 at h
  split at h
  · cases h
    rfl
  · cases h
def decIa_v4 : V → Option ((Nat))
  | .sub 24 1 0 q => some (q)
  | _ => none
theorem decIa_v4_ok (b : V) (x4 : (Nat)) (h : decIa_v4 b = some x4) : b = .sub 24 1 0 (x4) := by
  unfold decIa_v4 at h
  split at h
  · cases h
    rfl
  · cases h
def decIa_v5 : V → Option ((Int))
  | .s (.int .i64 k) => some (k)
  | _ => none
theorem decIa_v5_ok (b : V) (x5 : (Int)) (h : decIa_v5 b = some x5) : b = iv (x5) := by
  unfold decIa_v5 at h
  split at h
  · cases h
    rfl
  · cases h
def decIa_v6 : V → Option ((Int))
  | .s (.int .i64 i) => some (i)
  | _ => none
theorem decIa_v6_ok (b : V) (x6 : (Int)) (h : decIa_v6 b = some x6) : b = iv (x6) := by
  unfold decIa_v6 at h
  split at h
  · cases h
    rfl
  · cases h
def decIa_v7 : V → Option ((Int))
  | .s (.int .i64 a) => some (a)
  | _ => none
theorem decIa_v7_ok (b : V) (x7 : (Int)) (h : decIa_v7 b = some x7) : b = iv (x7) := by
  unfold decIa_v7 at h
  split at h
  · cases h
    rfl
  · cases h
def decIa_v8 : V → Option ((Int))
  | .s (.int .i64 b) => some (b)
  | _ => none
theorem decIa_v8_ok (b : V) (x8 : (Int)) (h : decIa_v8 b = some x8) : b = iv (x8) := by
  unfold decIa_v8 at h
  split at h
  · cases h
    rfl
  · cases h
def decIa_b0 : Blk → Option ((Int) × (Int) × (Int) × (Int) × (Int) × (Int) × (Int) × (Int) × (Int) × (Int) × (Int) × (Int) × (Int) × (Int) × (Int) × (Int) × (Int) × (Int) × (Int) × (Int))
  | .cells tt0 [.s (.int .i64 c0), .s (.int .i64 c1), .s (.int .i64 c2), .s (.int .i64 c3), .s (.int .i64 c4), .s (.int .i64 c5), .s (.int .i64 c6), .s (.int .i64 c7), .s (.int .i64 c8), .s (.int .i64 c9), .s (.int .i64 c10), .s (.int .i64 c11), .s (.int .i64 c12), .s (.int .i64 c13), .s (.int .i64 c14), .s (.int .i64 c15), .s (.int .i64 c16), .s (.int .i64 c17), .s (.int .i64 c18), .s (.int .i64 c19)] => if tt0 = 23 then some (c0, c1, c2, c3, c4, c5, c6, c7, c8, c9, c10, c11, c12, c13, c14, c15, c16, c17, c18, c19) else none
  | _ => none
theorem decIa_b0_ok (b : Blk) (y0 : (Int) × (Int) × (Int) × (Int) × (Int) × (Int) × (Int) × (Int) × (Int) × (Int) × (Int) × (Int) × (Int) × (Int) × (Int) × (Int) × (Int) × (Int) × (Int) × (Int)) (h : decIa_b0 b = some y0) : b = .cells 23 [iv (y0.1), iv (y0.2.1), iv (y0.2.2.1), iv (y0.2.2.2.1), iv (y0.2.2.2.2.1), iv (y0.2.2.2.2.2.1), iv (y0.2.2.2.2.2.2.1), iv (y0.2.2.2.2.2.2.2.1), iv (y0.2.2.2.2.2.2.2.2.1), iv (y0.2.2.2.2.2.2.2.2.2.1), iv (y0.2.2.2.2.2.2.2.2.2.2.1), iv (y0.2.2.2.2.2.2.2.2.2.2.2.1), iv (y0.2.2.2.2.2.2.2.2.2.2.2.2.1), iv (y0.2.2.2.2.2.2.2.2.2.2.2.2.2.1), iv (y0.2.2.2.2.2.2.2.2.2.2.2.2.2.2.1), iv (y0.2.2.2.2.2.2.2.2.2.2.2.2.2.2.2.1), iv (y0.2.2.2.2.2.2.2.2.2.2.2.2.2.2.2.2.1), iv (y0.2.2.2.2.2.2.2.2.2.2.2.2.2.2.2.2.2.1), iv (y0.2.2.2.2.2.2.2.2.2.2.2.2.2.2.2.2.2.2.1), iv (y0.2.2.2.2.2.2.2.2.2.2.2.2.2.2.2.2.2.2.2)] := by
  unfold decIa_b0 at h
  split at h
  · obtain ⟨e0, h⟩ := ite_some0 h
    subst e0
    cases h
    rfl
  · cases h
def decIa_b1 : Blk → Option ((Int) × (Int) × (Int) × (Int) × (Int) × (Int) × (Int) × (Int) × (Int) × (Int) × (Int) × (Int) × (Int) × (Int) × (Int) × (Int) × (Int) × (Int) × (Int) × (Int))
  | .cells tt0 [.s (.int .i64 z0), .s (.int .i64 z1), .s (.int .i64 z2), .s (.int .i64 z3), .s (.int .i64 z4), .s (.int .i64 z5), .s (.int .i64 z6), .s (.int .i64 z7), .s (.int .i64 z8), .s (.int .i64 z9), .s (.int .i64 z10), .s (.int .i64 z11), .s (.int .i64 z12), .s (.int .i64 z13), .s (.int .i64 z14), .s (.int .i64 z15), .s (.int .i64 z16), .s (.int .i64 z17), .s (.int .i64 z18), .s (.int .i64 z19)] => if tt0 = 23 then some (z0, z1, z2, z3, z4, z5, z6, z7, z8, z9, z10, z11, z12, z13, z14, z15, z16, z17, z18, z19) else none
  | _ => none
theorem decIa_b1_ok (b : Blk) (y1 : (Int) × (Int) × (Int) × (Int) × (Int) × (Int) × (Int) × (Int) × (Int) × (Int) × (Int) × (Int) × (Int) × (Int) × (Int) × (Int) × (Int) × (Int) × (Int) × (Int)) (h : decIa_b1 b = some y1) : b = .cells 23 [iv (y1.1), iv (y1.2.1), iv (y1.2.2.1), iv (y1.2.2.2.1), iv (y1.2.2.2.2.1), iv (y1.2.2.2.2.2.1), iv (y1.2.2.2.2.2.2.1), iv (y1.2.2.2.2.2.2.2.1), iv (y1.2.2.2.2.2.2.2.2.1), iv (y1.2.2.2.2.2.2.2.2.2.1), iv (y1.2.2.2.2.2.2.2.2.2.2.1), iv (y1.2.2.2.2.2.2.2.2.2.2.2.1), iv (y1.2.2.2.2.2.2.2.2.2.2.2.2.1), iv (y1.2.2.2.2.2.2.2.2.2.2.2.2.2.1), iv (y1.2.2.2.2.2.2.2.2.2.2.2.2.2.2.1), iv (y1.2.2.2.2.2.2.2.2.2.2.2.2.2.2.2.1), iv (y1.2.2.2.2.2.2.2.2.2.2.2.2.2.2.2.2.1), iv (y1.2.2.2.2.2.2.2.2.2.2.2.2.2.2.2.2.2.1), iv (y1.2.2.2.2.2.2.2.2.2.2.2.2.2.2.2.2.2.2.1), iv (y1.2.2.2.2.2.2.2.2.2.2.2.2.2.2.2.2.2.2.2)] := by
  unfold decIa_b1 at h
  split at h
  · obtain ⟨e0, h⟩ := ite_some0 h
    subst e0
    cases h
    rfl
  · cases h
def decIa_b2 : Blk → Option ((List Int))
  | .lst true tt0 [.int .i64] v => if tt0 = 2 then some (v) else none
  | _ => none
theorem decIa_b2_ok (b : Blk) (y2 : (List Int)) (h : decIa_b2 b = some y2) : b = .lst true 2 [.int .i64] (y2) := by
  unfold decIa_b2 at h
  split at h
  · obtain ⟨e0, h⟩ := ite_some0 h
    subst e0
    cases h
    rfl
  · cases h
def decIa_b3 : Blk → Option ((List Bool))
  | .lst true tt0 [.bool] w => if tt0 = 4 then some (w) else none
  | _ => none
theorem decIa_b3_ok (b : Blk) (y3 : (List Bool)) (h : decIa_b3 b = some y3) : b = .lst true 4 [.bool] (y3) := by
  unfold decIa_b3 at h
  split at h
  · obtain ⟨e0, h⟩ := ite_some0 h
    subst e0
    cases h
    rfl
  · cases h
def decIa : List V → List Blk → Option (PIa × AIa)
  | [v0, v1, v2, v3, v4, v5, v6, v7, v8], [b0, b1, b2, b3] => (decIa_v0 v0).bind fun x0 => (decIa_v1 v1).bind fun x1 => (decIa_v2 v2).bind fun x2 => (decIa_v3 v3).bind fun x3 => (decIa_v4 v4).bind fun x4 => (decIa_v5 v5).bind fun x5 => (decIa_v6 v6).bind fun x6 => (decIa_v7 v7).bind fun x7 => (decIa_v8 v8).bind fun x8 => (decIa_b0 b0).bind fun y0 => (decIa_b1 b1).bind fun y1 => (decIa_b2 b2).bind fun y2 => (decIa_b3 b3).bind fun y3 => some (⟨(x0), (x3), (x4), (x5), (x6), (x8), (y0.1), (y0.2.1), (y0.2.2.1), (y0.2.2.2.1), (y0.2.2.2.2.1), (y0.2.2.2.2.2.1), (y0.2.2.2.2.2.2.1), (y0.2.2.2.2.2.2.2.1), (y0.2.2.2.2.2.2.2.2.1), (y0.2.2.2.2.2.2.2.2.2.1), (y0.2.2.2.2.2.2.2.2.2.2.1), (y0.2.2.2.2.2.2.2.2.2.2.2.1), (y0.2.2.2.2.2.2.2.2.2.2.2.2.1), (y0.2.2.2.2.2.2.2.2.2.2.2.2.2.1), (y0.2.2.2.2.2.2.2.2.2.2.2.2.2.2.1), (y0.2.2.2.2.2.2.2.2.2.2.2.2.2.2.2.1), (y0.2.2.2.2.2.2.2.2.2.2.2.2.2.2.2.2.1), (y0.2.2.2.2.2.2.2.2.2.2.2.2.2.2.2.2.2.1), (y0.2.2.2.2.2.2.2.2.2.2.2.2.2.2.2.2.2.2.1), (y0.2.2.2.2.2.2.2.2.2.2.2.2.2.2.2.2.2.2.2), (y1.1), (y1.2.1), (y1.2.2.1), (y1.2.2.2.1), (y1.2.2.2.2.1), (y1.2.2.2.2.2.1), (y1.2.2.2.2.2.2.1), (y1.2.2.2.2.2.2.2.1), (y1.2.2.2.2.2.2.2.2.1), (y1.2.2.2.2.2.2.2.2.2.1), (y1.2.2.2.2.2.2.2.2.2.2.1), (y1.2.2.2.2.2.2.2.2.2.2.2.1), (y1.2.2.2.2.2.2.2.2.2.2.2.2.1), (y1.2.2.2.2.2.2.2.2.2.2.2.2.2.1), (y1.2.2.2.2.2.2.2.2.2.2.2.2.2.2.1), (y1.2.2.2.2.2.2.2.2.2.2.2.2.2.2.2.1), (y1.2.2.2.2.2.2.2.2.2.2.2.2.2.2.2.2.1), (y1.2.2.2.2.2.2.2.2.2.2.2.2.2.2.2.2.2.1), (y1.2.2.2.2.2.2.2.2.2.2.2.2.2.2.2.2.2.2.1), (y1.2.2.2.2.2.2.2.2.2.2.2.2.2.2.2.2.2.2.2), (y2), (y3), (x7)⟩, ⟨(x7)⟩)
  | _, _ => none
theorem decIa_ok (l : List V) (b : List Blk) (d : PIa × AIa) (h : decIa l b = some d) : l = vsIa d.1 d.2 ∧ b = bsIa d.1 d.2 := by
  unfold decIa at h
  split at h
  · obtain ⟨x0, hx0, h⟩ := Option.bind_eq_some_iff.1 h
    obtain ⟨x1, hx1, h⟩ := Option.bind_eq_some_iff.1 h
    obtain ⟨x2, hx2, h⟩ := Option.bind_eq_some_iff.1 h
    obtain ⟨x3, hx3, h⟩ := Option.bind_eq_some_iff.1 h
    obtain ⟨x4, hx4, h⟩ := Option.bind_eq_some_iff.1 h
    obtain ⟨x5, hx5, h⟩ := Option.bind_eq_some_iff.1 h
    obtain ⟨x6, hx6, h⟩ := Option.bind_eq_some_iff.1 h
    obtain ⟨x7, hx7, h⟩ := Option.bind_eq_some_iff.1 h
    obtain ⟨x8, hx8, h⟩ := Option.bind_eq_some_iff.1 h
    obtain ⟨y0, hy0, h⟩ := Option.bind_eq_some_iff.1 h
    obtain ⟨y1, hy1, h⟩ := Option.bind_eq_some_iff.1 h
    obtain ⟨y2, hy2, h⟩ := Option.bind_eq_some_iff.1 h
    obtain ⟨y3, hy3, h⟩ := Option.bind_eq_some_iff.1 h
    have ex0 := decIa_v0_ok _ _ hx0
    have ex1 := decIa_v1_ok _ _ hx1
    have ex2 := decIa_v2_ok _ _ hx2
    have ex3 := decIa_v3_ok _ _ hx3
    have ex4 := decIa_v4_ok _ _ hx4
    have ex5 := decIa_v5_ok _ _ hx5
    have ex6 := decIa_v6_ok _ _ hx6
    have ex7 := decIa_v7_ok _ _ hx7
    have ex8 := decIa_v8_ok _ _ hx8
    have ey0 := decIa_b0_ok _ _ hy0
    have ey1 := decIa_b1_ok _ _ hy1
    have ey2 := decIa_b2_ok _ _ hy2
    have ey3 := decIa_b3_ok _ _ hy3
    cases h
    subst ex0 ex1 ex2 ex3 ex4 ex5 ex6 ex7 ex8 ey0 ey1 ey2 ey3
    exact ⟨rfl, rfl⟩
  · cases h
noncomputable def rgIa : Nat := (firstReg lpIa).getD 0
theorem rgIa_is : firstReg lpIa = some rgIa := by kernel_rfl
noncomputable def lpIb : Code := lpI2
structure PIb where (s : ByteArray) (n : Nat) (q : Nat) (k : Int) (i : Int) (a : Int) (c0 : Int) (c1 : Int) (c2 : Int) (c3 : Int) (c4 : Int) (c5 : Int) (c6 : Int) (c7 : Int) (c8 : Int) (c9 : Int) (c10 : Int) (c11 : Int) (c12 : Int) (c13 : Int) (c14 : Int) (c15 : Int) (c16 : Int) (c17 : Int) (c18 : Int) (c19 : Int) (z0 : Int) (z1 : Int) (z2 : Int) (z3 : Int) (z4 : Int) (z5 : Int) (z6 : Int) (z7 : Int) (z8 : Int) (z9 : Int) (z10 : Int) (z11 : Int) (z12 : Int) (z13 : Int) (z14 : Int) (z15 : Int) (z16 : Int) (z17 : Int) (z18 : Int) (z19 : Int) (v : List Int) (w : List Bool) (f : Int)
structure AIb where (b : Int)
abbrev SIb : List (Nat × Src) := [(0, .same), (8, .same), (16, .same), (24, .same)]
def vsIb (p : PIb) (a : AIb) : List V := [.s (.str p.s), .ptr 0 0, .ptr 8 0, .sub 16 1 0 p.n, .sub 24 1 0 p.q, iv p.k, iv p.i, iv p.a, iv a.b]
def bsIb (p : PIb) (a : AIb) : List Blk := [.cells 23 [iv p.c0, iv p.c1, iv p.c2, iv p.c3, iv p.c4, iv p.c5, iv p.c6, iv p.c7, iv p.c8, iv p.c9, iv p.c10, iv p.c11, iv p.c12, iv p.c13, iv p.c14, iv p.c15, iv p.c16, iv p.c17, iv p.c18, iv p.c19], .cells 23 [iv p.z0, iv p.z1, iv p.z2, iv p.z3, iv p.z4, iv p.z5, iv p.z6, iv p.z7, iv p.z8, iv p.z9, iv p.z10, iv p.z11, iv p.z12, iv p.z13, iv p.z14, iv p.z15, iv p.z16, iv p.z17, iv p.z18, iv p.z19], .lst true 2 [.int .i64] p.v, .lst true 4 [.bool] p.w]
noncomputable def FIb (p : PIb) (a : AIb) : St := mkSt [1,2,4,7,8,10,11,12,13] (keysR SIb) 6000 108 (vsIb p a) (bsIb p a)
noncomputable def rdIb (p : PIb) (a : AIb) : T (Ex × St) := T.anon (roundN G1 noLoops lpIb [1,2,4,7,8,10,11,12,13] SIb 6000 6000 (mkSt [1,2,4,7,8,10,11,12,13] (keysR SIb) 6000 108 (vsIb p a) (bsIb p a)))
def decIb_v0 : V → Option ((ByteArray))
  | .s (.str s) => some (s)
  | _ => none
theorem decIb_v0_ok (b : V) (x0 : (ByteArray)) (h : decIb_v0 b = some x0) : b = .s (.str (x0)) := by
  unfold decIb_v0 at h
  split at h
  · cases h
    rfl
  · cases h
def decIb_v1 : V → Option (Unit)
  | .ptr 0 0 => some ()
  | _ => none
theorem decIb_v1_ok (b : V) (x1 : Unit) (h : decIb_v1 b = some x1) : b = .ptr 0 0 := by
  unfold decIb_v1 at h
  split at h
  · cases h
    rfl
  · cases h
def decIb_v2 : V → Option (Unit)
  | .ptr 8 0 => some ()
  | _ => none
theorem decIb_v2_ok (b : V) (x2 : Unit) (h : decIb_v2 b = some x2) : b = .ptr 8 0 := by
  unfold decIb_v2 at h
  split at h
  · cases h
    rfl
  · cases h
def decIb_v3 : V → Option ((Nat))
  | .sub 16 1 0 n => some (n)
  | _ => none
theorem decIb_v3_ok (b : V) (x3 : (Nat)) (h : decIb_v3 b = some x3) : b = .sub 16 1 0 (x3) := by
  unfold decIb_v3 at h
  split at h
  · cases h
    rfl
  · cases h
def decIb_v4 : V → Option ((Nat))
  | .sub 24 1 0 q => some (q)
  | _ => none
theorem decIb_v4_ok (b : V) (x4 : (Nat)) (h : decIb_v4 b = some x4) : b = .sub 24 1 0 (x4) := by
  unfold decIb_v4 at h
  split at h
  · cases h
    rfl
  · cases h
def decIb_v5 : V → Option ((Int))
  | .s (.int .i64 k) => some (k)
  | _ => none
theorem decIb_v5_ok (b : V) (x5 : (Int)) (h : decIb_v5 b = some x5) : b = iv (x5) := by
  unfold decIb_v5 at h
  split at h
  · cases h
    rfl
  · cases h
def decIb_v6 : V → Option ((Int))
  | .s (.int .i64 i) => some (i)
  | _ => none
theorem decIb_v6_ok (b : V) (x6 : (Int)) (h : decIb_v6 b = some x6) : b = iv (x6) := by
  unfold decIb_v6 at h
  split at h
  · cases h
    rfl
  · cases h
def decIb_v7 : V → Option ((Int))
  | .s (.int .i64 a) => some (a)
  | _ => none
theorem decIb_v7_ok (b : V) (x7 : (Int)) (h : decIb_v7 b = some x7) : b = iv (x7) := by
  unfold decIb_v7 at h
  split at h
  · cases h
    rfl
  · cases h
def decIb_v8 : V → Option ((Int))
  | .s (.int .i64 b) => some (b)
  | _ => none
theorem decIb_v8_ok (b : V) (x8 : (Int)) (h : decIb_v8 b = some x8) : b = iv (x8) := by
  unfold decIb_v8 at h
  split at h
  · cases h
    rfl
  · cases h
def decIb_b0 : Blk → Option ((Int) × (Int) × (Int) × (Int) × (Int) × (Int) × (Int) × (Int) × (Int) × (Int) × (Int) × (Int) × (Int) × (Int) × (Int) × (Int) × (Int) × (Int) × (Int) × (Int))
  | .cells tt0 [.s (.int .i64 c0), .s (.int .i64 c1), .s (.int .i64 c2), .s (.int .i64 c3), .s (.int .i64 c4), .s (.int .i64 c5), .s (.int .i64 c6), .s (.int .i64 c7), .s (.int .i64 c8), .s (.int .i64 c9), .s (.int .i64 c10), .s (.int .i64 c11), .s (.int .i64 c12), .s (.int .i64 c13), .s (.int .i64 c14), .s (.int .i64 c15), .s (.int .i64 c16), .s (.int .i64 c17), .s (.int .i64 c18), .s (.int .i64 c19)] => if tt0 = 23 then some (c0, c1, c2, c3, c4, c5, c6, c7, c8, c9, c10, c11, c12, c13, c14, c15, c16, c17, c18, c19) else none
  | _ => none
theorem decIb_b0_ok (b : Blk) (y0 : (Int) × (Int) × (Int) × (Int) × (Int) × (Int) × (Int) × (Int) × (Int) × (Int) × (Int) × (Int) × (Int) × (Int) × (Int) × (Int) × (Int) × (Int) × (Int) × (Int)) (h : decIb_b0 b = some y0) : b = .cells 23 [iv (y0.1), iv (y0.2.1), iv (y0.2.2.1), iv (y0.2.2.2.1), iv (y0.2.2.2.2.1), iv (y0.2.2.2.2.2.1), iv (y0.2.2.2.2.2.2.1), iv (y0.2.2.2.2.2.2.2.1), iv (y0.2.2.2.2.2.2.2.2.1), iv (y0.2.2.2.2.2.2.2.2.2.1), iv (y0.2.2.2.2.2.2.2.2.2.2.1), iv (y0.2.2.2.2.2.2.2.2.2.2.2.1), iv (y0.2.2.2.2.2.2.2.2.2.2.2.2.1), iv (y0.2.2.2.2.2.2.2.2.2.2.2.2.2.1), iv (y0.2.2.2.2.2.2.2.2.2.2.2.2.2.2.1), iv (y0.2.2.2.2.2.2.2.2.2.2.2.2.2.2.2.1), iv (y0.2.2.2.2.2.2.2.2.2.2.2.2.2.2.2.2.1), iv (y0.2.2.2.2.2.2.2.2.2.2.2.2.2.2.2.2.2.1), iv (y0.2.2.2.2.2.2.2.2.2.2.2.2.2.2.2.2.2.2.1), iv (y0.2.2.2.2.2.2.2.2.2.2.2.2.2.2.2.2.2.2.2)] := by
  unfold decIb_b0 at h
  split at h
  · obtain ⟨e0, h⟩ := ite_some0 h
    subst e0
    cases h
    rfl
  · cases h
def decIb_b1 : Blk → Option ((Int) × (Int) × (Int) × (Int) × (Int) × (Int) × (Int) × (Int) × (Int) × (Int) × (Int) × (Int) × (Int) × (Int) × (Int) × (Int) × (Int) × (Int) × (Int) × (Int))
  | .cells tt0 [.s (.int .i64 z0), .s (.int .i64 z1), .s (.int .i64 z2), .s (.int .i64 z3), .s (.int .i64 z4), .s (.int .i64 z5), .s (.int .i64 z6), .s (.int .i64 z7), .s (.int .i64 z8), .s (.int .i64 z9), .s (.int .i64 z10), .s (.int .i64 z11), .s (.int .i64 z12), .s (.int .i64 z13), .s (.int .i64 z14), .s (.int .i64 z15), .s (.int .i64 z16), .s (.int .i64 z17), .s (.int .i64 z18), .s (.int .i64 z19)] => if tt0 = 23 then some (z0, z1, z2, z3, z4, z5, z6, z7, z8, z9, z10, z11, z12, z13, z14, z15, z16, z17, z18, z19) else none
  | _ => none
theorem decIb_b1_ok (b : Blk) (y1 : (Int) × (Int) × (Int) × (Int) × (Int) × (Int) × (Int) × (Int) × (Int) × (Int) × (Int) × (Int) × (Int) × (Int) × (Int) × (Int) × (Int) × (Int) × (Int) × (Int)) (h : decIb_b1 b = some y1) : b = .cells 23 [iv (y1.1), iv (y1.2.1), iv (y1.2.2.1), iv (y1.2.2.2.1), iv (y1.2.2.2.2.1), iv (y1.2.2.2.2.2.1), iv (y1.2.2.2.2.2.2.1), iv (y1.2.2.2.2.2.2.2.1), iv (y1.2.2.2.2.2.2.2.2.1), iv (y1.2.2.2.2.2.2.2.2.2.1), iv (y1.2.2.2.2.2.2.2.2.2.2.1), iv (y1.2.2.2.2.2.2.2.2.2.2.2.1), iv (y1.2.2.2.2.2.2.2.2.2.2.2.2.1), iv (y1.2.2.2.2.2.2.2.2.2.2.2.2.2.1), iv (y1.2.2.2.2.2.2.2.2.2.2.2.2.2.2.1), iv (y1.2.2.2.2.2.2.2.2.2.2.2.2.2.2.2.1), iv (y1.2.2.2.2.2.2.2.2.2.2.2.2.2.2.2.2.1), iv (y1.2.2.2.2.2.2.2.2.2.2.2.2.2.2.2.2.2.1), iv (y1.2.2.2.2.2.2.2.2.2.2.2.2.2.2.2.2.2.2.1), iv (y1.2.2.2.2.2.2.2.2.2.2.2.2.2.2.2.2.2.2.2)] := by
  unfold decIb_b1 at h
  split at h
  · obtain ⟨e0, h⟩ := ite_some0 h
    subst e0
    cases h
    rfl
  · cases h
def decIb_b2 : Blk → Option ((List Int))
  | .lst true tt0 [.int .i64] v => if tt0 = 2 then some (v) else none
  | _ => none
theorem decIb_b2_ok (b : Blk) (y2 : (List Int)) (h : decIb_b2 b = some y2) : b = .lst true 2 [.int .i64] (y2) := by
  unfold decIb_b2 at h
  split at h
  · obtain ⟨e0, h⟩ := ite_some0 h
    subst e0
    cases h
    rfl
  · cases h
def decIb_b3 : Blk → Option ((List Bool))
  | .lst true tt0 [.bool] w => if tt0 = 4 then some (w) else none
  | _ => none
theorem decIb_b3_ok (b : Blk) (y3 : (List Bool)) (h : decIb_b3 b = some y3) : b = .lst true 4 [.bool] (y3) := by
  unfold decIb_b3 at h
  split at h
  · obtain ⟨e0, h⟩ := ite_some0 h
    subst e0
    cases h
    rfl
  · cases h
def decIb : List V → List Blk → Option (PIb × AIb)
  | [v0, v1, v2, v3, v4, v5, v6, v7, v8], [b0, b1, b2, b3] => (decIb_v0 v0).bind fun x0 => (decIb_v1 v1).bind fun x1 => (decIb_v2 v2).bind fun x2 => (decIb_v3 v3).bind fun x3 => (decIb_v4 v4).bind fun x4 => (decIb_v5 v5).bind fun x5 => (decIb_v6 v6).bind fun x6 => (decIb_v7 v7).bind fun x7 => (decIb_v8 v8).bind fun x8 => (decIb_b0 b0).bind fun y0 => (decIb_b1 b1).bind fun y1 => (decIb_b2 b2).bind fun y2 => (decIb_b3 b3).bind fun y3 => some (⟨(x0), (x3), (x4), (x5), (x6), (x7), (y0.1), (y0.2.1), (y0.2.2.1), (y0.2.2.2.1), (y0.2.2.2.2.1), (y0.2.2.2.2.2.1), (y0.2.2.2.2.2.2.1), (y0.2.2.2.2.2.2.2.1), (y0.2.2.2.2.2.2.2.2.1), (y0.2.2.2.2.2.2.2.2.2.1), (y0.2.2.2.2.2.2.2.2.2.2.1), (y0.2.2.2.2.2.2.2.2.2.2.2.1), (y0.2.2.2.2.2.2.2.2.2.2.2.2.1), (y0.2.2.2.2.2.2.2.2.2.2.2.2.2.1), (y0.2.2.2.2.2.2.2.2.2.2.2.2.2.2.1), (y0.2.2.2.2.2.2.2.2.2.2.2.2.2.2.2.1), (y0.2.2.2.2.2.2.2.2.2.2.2.2.2.2.2.2.1), (y0.2.2.2.2.2.2.2.2.2.2.2.2.2.2.2.2.2.1), (y0.2.2.2.2.2.2.2.2.2.2.2.2.2.2.2.2.2.2.1), (y0.2.2.2.2.2.2.2.2.2.2.2.2.2.2.2.2.2.2.2), (y1.1), (y1.2.1), (y1.2.2.1), (y1.2.2.2.1), (y1.2.2.2.2.1), (y1.2.2.2.2.2.1), (y1.2.2.2.2.2.2.1), (y1.2.2.2.2.2.2.2.1), (y1.2.2.2.2.2.2.2.2.1), (y1.2.2.2.2.2.2.2.2.2.1), (y1.2.2.2.2.2.2.2.2.2.2.1), (y1.2.2.2.2.2.2.2.2.2.2.2.1), (y1.2.2.2.2.2.2.2.2.2.2.2.2.1), (y1.2.2.2.2.2.2.2.2.2.2.2.2.2.1), (y1.2.2.2.2.2.2.2.2.2.2.2.2.2.2.1), (y1.2.2.2.2.2.2.2.2.2.2.2.2.2.2.2.1), (y1.2.2.2.2.2.2.2.2.2.2.2.2.2.2.2.2.1), (y1.2.2.2.2.2.2.2.2.2.2.2.2.2.2.2.2.2.1), (y1.2.2.2.2.2.2.2.2.2.2.2.2.2.2.2.2.2.2.1), (y1.2.2.2.2.2.2.2.2.2.2.2.2.2.2.2.2.2.2.2), (y2), (y3), (x8)⟩, ⟨(x8)⟩)
  | _, _ => none
theorem decIb_ok (l : List V) (b : List Blk) (d : PIb × AIb) (h : decIb l b = some d) : l = vsIb d.1 d.2 ∧ b = bsIb d.1 d.2 := by
  unfold decIb at h
  split at h
  · obtain ⟨x0, hx0, h⟩ := Option.bind_eq_some_iff.1 h
    obtain ⟨x1, hx1, h⟩ := Option.bind_eq_some_iff.1 h
    obtain ⟨x2, hx2, h⟩ := Option.bind_eq_some_iff.1 h
    obtain ⟨x3, hx3, h⟩ := Option.bind_eq_some_iff.1 h
    obtain ⟨x4, hx4, h⟩ := Option.bind_eq_some_iff.1 h
    obtain ⟨x5, hx5, h⟩ := Option.bind_eq_some_iff.1 h
    obtain ⟨x6, hx6, h⟩ := Option.bind_eq_some_iff.1 h
    obtain ⟨x7, hx7, h⟩ := Option.bind_eq_some_iff.1 h
    obtain ⟨x8, hx8, h⟩ := Option.bind_eq_some_iff.1 h
    obtain ⟨y0, hy0, h⟩ := Option.bind_eq_some_iff.1 h
    obtain ⟨y1, hy1, h⟩ := Option.bind_eq_some_iff.1 h
    obtain ⟨y2, hy2, h⟩ := Option.bind_eq_some_iff.1 h
    obtain ⟨y3, hy3, h⟩ := Option.bind_eq_some_iff.1 h
    have ex0 := decIb_v0_ok _ _ hx0
    have ex1 := decIb_v1_ok _ _ hx1
    have ex2 := decIb_v2_ok _ _ hx2
    have ex3 := decIb_v3_ok _ _ hx3
    have ex4 := decIb_v4_ok _ _ hx4
    have ex5 := decIb_v5_ok _ _ hx5
    have ex6 := decIb_v6_ok _ _ hx6
    have ex7 := decIb_v7_ok _ _ hx7
    have ex8 := decIb_v8_ok _ _ hx8
    have ey0 := decIb_b0_ok _ _ hy0
    have ey1 := decIb_b1_ok _ _ hy1
    have ey2 := decIb_b2_ok _ _ hy2
    have ey3 := decIb_b3_ok _ _ hy3
    cases h
    subst ex0 ex1 ex2 ex3 ex4 ex5 ex6 ex7 ex8 ey0 ey1 ey2 ey3
    exact ⟨rfl, rfl⟩
  · cases h
noncomputable def rgIb : Nat := (firstReg lpIb).getD 0
theorem rgIb_is : firstReg lpIb = some rgIb := by kernel_rfl
/-- bytes that are blanks -/
def bl (s : ByteArray) (x y : Int) : Prop := ∀ j : Nat, x ≤ (j : Int) → (j : Int) < y → byteAt s (j : Int) = 32
def inA (p : PIa) (a : AIa) : Bool := bif decide (a.a < p.b) == true && true then decide (0 ≤ a.a) && decide (a.a < (p.s.size : Int)) else true
def goIa (p : PIa) (a : AIa) : Bool := bif decide (a.a < p.b) then byteAt p.s a.a == 32 else false
def muIa (p : PIa) (a : AIa) : Nat := (p.b - a.a).toNat
theorem ia_n (p : PIa) (a : AIa) : T.path [true, true] (rdIa p a) = some ([(inA p a, true), (goIa p a, true)], (.normal, FIa p ⟨IntKind.wrap .i64 (a.a + 1)⟩)) := by kernel_rfl
theorem ia_x (p : PIa) (a : AIa) : T.path [true, false] (rdIa p a) = some ([(inA p a, true), (goIa p a, false)], (.exit 2, FIa p a)) := by kernel_rfl
structure okIa (p : PIa) (a : AIa) : Prop where
  f0 : 0 ≤ p.f
  f1 : p.f ≤ a.a
  a1 : a.a ≤ p.b
  b1 : p.b ≤ (p.s.size : Int)
  z : p.s.size ≤ 1000000
  h : bl p.s p.f a.a
theorem inA_is {p : PIa} {a : AIa} (h : okIa p a) : inA p a = true := by
  obtain ⟨h1, h2, h3, h4, h5, h6⟩ := h
  unfold inA
  by_cases q : a.a < p.b
  · rw [decide_eq_true q, decide_eq_true (show 0 ≤ a.a by omega), decide_eq_true (show a.a < (p.s.size : Int) by omega)]; rfl
  · rw [decide_eq_false q]; rfl
theorem stepIa (p : PIa) (a : AIa) (h : okIa p a) (hg : goIa p a = true) : ∃ b, stepC okIa rdIa FIa muIa p a b := by
  have hin := inA_is h
  obtain ⟨h1, h2, h3, h4, h5, h6⟩ := h
  have hg' := hg
  unfold goIa at hg'
  have hi : a.a < p.b := by
    by_cases q : a.a < p.b
    · exact q
    · rw [decide_eq_false q] at hg'; cases hg'
  rw [decide_eq_true hi] at hg'
  have hb : byteAt p.s a.a = 32 := beq_iff_eq.1 hg'
  have way := ia_n p a
  rw [wrap64 (n := a.a + 1) (by omega) (by omega)] at way
  refine ⟨_, T.path_eval way ⟨hin, hg, trivial⟩, ⟨h1, by show p.f ≤ a.a + 1; omega, by show a.a + 1 ≤ p.b; omega, h4, h5, ?_⟩, by show (p.b - (a.a + 1)).toNat < (p.b - a.a).toNat; omega⟩
  intro j j1 j2
  have j2 : (j : Int) < a.a + 1 := j2
  by_cases q : (j : Int) < a.a
  · exact h6 j j1 q
  · rw [show (j : Int) = a.a by omega]; exact hb
theorem exIa (p : PIa) (a : AIa) (h : okIa p a) (hg : goIa p a = false) : (rdIa p a).eval = some (.exit 2, FIa p a) := T.path_eval (ia_x p a) ⟨inA_is h, hg, trivial⟩
noncomputable def famIa : LSpec := famC [1,2,4,7,8,10,11,12,13] SIa 5000 5000 108 decIa okIa goIa rdIa FIa muIa (.exit 2)
theorem lpIa_ok : LoopOk G1 lpIa famIa := famC_ok (vs := vsIa) (bs := bsIa) G1_ok mixed (noLoops_ok _) decIa_ok (by simp) (fun _ _ => rfl) (fun _ _ => rfl) stepIa exIa
def inB (p : PIb) (a : AIb) : Bool := bif decide (p.a < a.b) == true && true then decide (0 ≤ IntKind.wrap .i64 (a.b - 1)) && decide (IntKind.wrap .i64 (a.b - 1) < (p.s.size : Int)) else true
def goIb (p : PIb) (a : AIb) : Bool := bif decide (p.a < a.b) then byteAt p.s (IntKind.wrap .i64 (a.b - 1)) == 32 else false
def muIb (p : PIb) (a : AIb) : Nat := (a.b - p.a).toNat
theorem ib_n (p : PIb) (a : AIb) : T.path [true, true] (rdIb p a) = some ([(inB p a, true), (goIb p a, true)], (.normal, FIb p ⟨IntKind.wrap .i64 (a.b - 1)⟩)) := by kernel_rfl
theorem ib_x (p : PIb) (a : AIb) : T.path [true, false] (rdIb p a) = some ([(inB p a, true), (goIb p a, false)], (.exit 4, FIb p a)) := by kernel_rfl
structure okIb (p : PIb) (a : AIb) : Prop where
  a0 : 0 ≤ p.a
  a1 : p.a ≤ a.b
  b1 : a.b ≤ p.f
  f1 : p.f ≤ (p.s.size : Int)
  z : p.s.size ≤ 1000000
  h : bl p.s a.b p.f
theorem inB_is {p : PIb} {a : AIb} (h : okIb p a) : inB p a = true := by
  obtain ⟨h1, h2, h3, h4, h5, h6⟩ := h
  unfold inB
  by_cases q : p.a < a.b
  · rw [wrap64 (n := a.b - 1) (by omega) (by omega), decide_eq_true q, decide_eq_true (show 0 ≤ a.b - 1 by omega), decide_eq_true (show a.b - 1 < (p.s.size : Int) by omega)]; rfl
  · rw [decide_eq_false q]; rfl
theorem stepIb (p : PIb) (a : AIb) (h : okIb p a) (hg : goIb p a = true) : ∃ b, stepC okIb rdIb FIb muIb p a b := by
  have hin := inB_is h
  obtain ⟨h1, h2, h3, h4, h5, h6⟩ := h
  have hg' := hg
  unfold goIb at hg'
  have hi : p.a < a.b := by
    by_cases q : p.a < a.b
    · exact q
    · rw [decide_eq_false q] at hg'; cases hg'
  have w1 : IntKind.wrap .i64 (a.b - 1) = a.b - 1 := wrap64 (by omega) (by omega)
  rw [decide_eq_true hi, w1] at hg'
  have hb : byteAt p.s (a.b - 1) = 32 := beq_iff_eq.1 hg'
  have way := ib_n p a
  rw [w1] at way
  refine ⟨_, T.path_eval way ⟨hin, hg, trivial⟩, ⟨h1, by show p.a ≤ a.b - 1; omega, by show a.b - 1 ≤ p.f; omega, h4, h5, ?_⟩, by show (a.b - 1 - p.a).toNat < (a.b - p.a).toNat; omega⟩
  intro j j1 j2
  have j1 : a.b - 1 ≤ (j : Int) := j1
  by_cases q : a.b ≤ (j : Int)
  · exact h6 j q j2
  · rw [show (j : Int) = a.b - 1 by omega]; exact hb
theorem exIb (p : PIb) (a : AIb) (h : okIb p a) (hg : goIb p a = false) : (rdIb p a).eval = some (.exit 4, FIb p a) := T.path_eval (ib_x p a) ⟨inB_is h, hg, trivial⟩
noncomputable def famIb : LSpec := famC [1,2,4,7,8,10,11,12,13] SIb 6000 6000 108 decIb okIb goIb rdIb FIb muIb (.exit 4)
theorem lpIb_ok : LoopOk G1 lpIb famIb := famC_ok (vs := vsIb) (bs := bsIb) G1_ok mixed (noLoops_ok _) decIb_ok (by simp) (fun _ _ => rfl) (fun _ _ => rfl) stepIb exIb
end Go.Proofs.YtdangjhbkffbnaaDoor.Txt

/- Layer 4: the document's Parse: the loop over its lines. -/
namespace Go.Proofs.YtdangjhbkffbnaaDoor.Txt
open Go.Eng Go.RowKit
set_option linter.unusedVariables false
set_option linter.unusedSimpArgs false
set_option maxRecDepth 100000
theorem lps_inP {C : Cfg} {c d d' : Code} {n n' : Nat} {sp sp' : LSpec} (e : loopsIn c = [d, d']) (hr : firstReg d = some n) (hr' : firstReg d' = some n') (hn : (n == n') = false) (h : LoopOk C d sp) (h' : LoopOk C d' sp') : LoopsOkS C (byReg [(n, sp), (n', sp')]) c := by
  refine ⟨loopsOk_of c ?_⟩
  rw [e]
  intro a ha
  rcases List.mem_cons.1 ha with q | ha
  · rw [q]; exact byReg_mem hr (by simp [findL]) h
  rcases List.mem_cons.1 ha with q | ha
  · rw [q]; exact byReg_mem hr' (by simp [findL, hn]) h'
  · cases ha
theorem ou_in : LoopsOkS G1 (byReg [(rgIa, famIa), (rgIb, famIb)]) lpO0 := lps_inP (d := lpI1) (d' := lpI2) (by kernel_rfl) rgIa_is rgIb_is (by kernel_rfl) lpIa_ok lpIb_ok
noncomputable def lpOu : Code := lpO0
structure POu where (s : ByteArray) (n : Nat) (q : Nat) (c0 : Int) (c1 : Int) (c2 : Int) (c3 : Int) (c4 : Int) (c5 : Int) (c6 : Int) (c7 : Int) (c8 : Int) (c9 : Int) (c10 : Int) (c11 : Int) (c12 : Int) (c13 : Int) (c14 : Int) (c15 : Int) (c16 : Int) (c17 : Int) (c18 : Int) (c19 : Int) (z0 : Int) (z1 : Int) (z2 : Int) (z3 : Int) (z4 : Int) (z5 : Int) (z6 : Int) (z7 : Int) (z8 : Int) (z9 : Int) (z10 : Int) (z11 : Int) (z12 : Int) (z13 : Int) (z14 : Int) (z15 : Int) (z16 : Int) (z17 : Int) (z18 : Int) (z19 : Int)
structure AOu where (f : Int) (k : Int) (i : Int) (v : List Int) (w : List Bool)
abbrev SOu : List (Nat × Src) := [(0, .same), (8, .same), (16, .same), (24, .same)]
def vsOu (p : POu) (a : AOu) : List V := [.s (.str p.s), .ptr 0 0, .ptr 8 0, .sub 16 1 0 p.n, .sub 24 1 0 p.q, iv a.f, iv a.k, iv a.i]
def bsOu (p : POu) (a : AOu) : List Blk := [.cells 23 [iv p.c0, iv p.c1, iv p.c2, iv p.c3, iv p.c4, iv p.c5, iv p.c6, iv p.c7, iv p.c8, iv p.c9, iv p.c10, iv p.c11, iv p.c12, iv p.c13, iv p.c14, iv p.c15, iv p.c16, iv p.c17, iv p.c18, iv p.c19], .cells 23 [iv p.z0, iv p.z1, iv p.z2, iv p.z3, iv p.z4, iv p.z5, iv p.z6, iv p.z7, iv p.z8, iv p.z9, iv p.z10, iv p.z11, iv p.z12, iv p.z13, iv p.z14, iv p.z15, iv p.z16, iv p.z17, iv p.z18, iv p.z19], .lst true 2 [.int .i64] a.v, .lst true 4 [.bool] a.w]
noncomputable def FOu (p : POu) (a : AOu) : St := mkSt [1,2,4,7,8,9,10,11] (keysR SOu) 4000 108 (vsOu p a) (bsOu p a)
abbrev SOux : List (Nat × Src) := [(0, .same), (8, .same), (16, .same), (24, .same)]
noncomputable def rdOu (p : POu) (a : AOu) : T (Ex × St) := T.anon (roundX G1 (byReg [(rgIa, famIa), (rgIb, famIb)]) lpOu [1,2,4,7,8,9,10,11] SOu [2,4,5,6,7] SOux 4000 4000 (mkSt [1,2,4,7,8,9,10,11] (keysR SOu) 4000 108 (vsOu p a) (bsOu p a)))
def decOu_v0 : V → Option ((ByteArray))
  | .s (.str s) => some (s)
  | _ => none
theorem decOu_v0_ok (b : V) (x0 : (ByteArray)) (h : decOu_v0 b = some x0) : b = .s (.str (x0)) := by
  unfold decOu_v0 at h
  split at h
  · cases h
    rfl
  · cases h
def decOu_v1 : V → Option (Unit)
  | .ptr 0 0 => some ()
  | _ => none
theorem decOu_v1_ok (b : V) (x1 : Unit) (h : decOu_v1 b = some x1) : b = .ptr 0 0 := by
  unfold decOu_v1 at h
  split at h
  · cases h
    rfl
  · cases h
def decOu_v2 : V → Option (Unit)
  | .ptr 8 0 => some ()
  | _ => none
theorem decOu_v2_ok (b : V) (x2 : Unit) (h : decOu_v2 b = some x2) : b = .ptr 8 0 := by
  unfold decOu_v2 at h
  split at h
  · cases h
    rfl
  · cases h
def decOu_v3 : V → Option ((Nat))
  | .sub 16 1 0 n => some (n)
  | _ => none
theorem decOu_v3_ok (b : V) (x3 : (Nat)) (h : decOu_v3 b = some x3) : b = .sub 16 1 0 (x3) := by
  unfold decOu_v3 at h
  split at h
  · cases h
    rfl
  · cases h
def decOu_v4 : V → Option ((Nat))
  | .sub 24 1 0 q => some (q)
  | _ => none
theorem decOu_v4_ok (b : V) (x4 : (Nat)) (h : decOu_v4 b = some x4) : b = .sub 24 1 0 (x4) := by
  unfold decOu_v4 at h
  split at h
  · cases h
    rfl
  · cases h
def decOu_v5 : V → Option ((Int))
  | .s (.int .i64 f) => some (f)
  | _ => none
theorem decOu_v5_ok (b : V) (x5 : (Int)) (h : decOu_v5 b = some x5) : b = iv (x5) := by
  unfold decOu_v5 at h
  split at h
  · cases h
    rfl
  · cases h
def decOu_v6 : V → Option ((Int))
  | .s (.int .i64 k) => some (k)
  | _ => none
theorem decOu_v6_ok (b : V) (x6 : (Int)) (h : decOu_v6 b = some x6) : b = iv (x6) := by
  unfold decOu_v6 at h
  split at h
  · cases h
    rfl
  · cases h
def decOu_v7 : V → Option ((Int))
  | .s (.int .i64 i) => some (i)
  | _ => none
theorem decOu_v7_ok (b : V) (x7 : (Int)) (h : decOu_v7 b = some x7) : b = iv (x7) := by
  unfold decOu_v7 at h
  split at h
  · cases h
    rfl
  · cases h
def decOu_b0 : Blk → Option ((Int) × (Int) × (Int) × (Int) × (Int) × (Int) × (Int) × (Int) × (Int) × (Int) × (Int) × (Int) × (Int) × (Int) × (Int) × (Int) × (Int) × (Int) × (Int) × (Int))
  | .cells tt0 [.s (.int .i64 c0), .s (.int .i64 c1), .s (.int .i64 c2), .s (.int .i64 c3), .s (.int .i64 c4), .s (.int .i64 c5), .s (.int .i64 c6), .s (.int .i64 c7), .s (.int .i64 c8), .s (.int .i64 c9), .s (.int .i64 c10), .s (.int .i64 c11), .s (.int .i64 c12), .s (.int .i64 c13), .s (.int .i64 c14), .s (.int .i64 c15), .s (.int .i64 c16), .s (.int .i64 c17), .s (.int .i64 c18), .s (.int .i64 c19)] => if tt0 = 23 then some (c0, c1, c2, c3, c4, c5, c6, c7, c8, c9, c10, c11, c12, c13, c14, c15, c16, c17, c18, c19) else none
  | _ => none
theorem decOu_b0_ok (b : Blk) (y0 : (Int) × (Int) × (Int) × (Int) × (Int) × (Int) × (Int) × (Int) × (Int) × (Int) × (Int) × (Int) × (Int) × (Int) × (Int) × (Int) × (Int) × (Int) × (Int) × (Int)) (h : decOu_b0 b = some y0) : b = .cells 23 [iv (y0.1), iv (y0.2.1), iv (y0.2.2.1), iv (y0.2.2.2.1), iv (y0.2.2.2.2.1), iv (y0.2.2.2.2.2.1), iv (y0.2.2.2.2.2.2.1), iv (y0.2.2.2.2.2.2.2.1), iv (y0.2.2.2.2.2.2.2.2.1), iv (y0.2.2.2.2.2.2.2.2.2.1), iv (y0.2.2.2.2.2.2.2.2.2.2.1), iv (y0.2.2.2.2.2.2.2.2.2.2.2.1), iv (y0.2.2.2.2.2.2.2.2.2.2.2.2.1), iv (y0.2.2.2.2.2.2.2.2.2.2.2.2.2.1), iv (y0.2.2.2.2.2.2.2.2.2.2.2.2.2.2.1), iv (y0.2.2.2.2.2.2.2.2.2.2.2.2.2.2.2.1), iv (y0.2.2.2.2.2.2.2.2.2.2.2.2.2.2.2.2.1), iv (y0.2.2.2.2.2.2.2.2.2.2.2.2.2.2.2.2.2.1), iv (y0.2.2.2.2.2.2.2.2.2.2.2.2.2.2.2.2.2.2.1), iv (y0.2.2.2.2.2.2.2.2.2.2.2.2.2.2.2.2.2.2.2)] := by
  unfold decOu_b0 at h
  split at h
  · obtain ⟨e0, h⟩ := ite_some0 h
    subst e0
    cases h
    rfl
  · cases h
def decOu_b1 : Blk → Option ((Int) × (Int) × (Int) × (Int) × (Int) × (Int) × (Int) × (Int) × (Int) × (Int) × (Int) × (Int) × (Int) × (Int) × (Int) × (Int) × (Int) × (Int) × (Int) × (Int))
  | .cells tt0 [.s (.int .i64 z0), .s (.int .i64 z1), .s (.int .i64 z2), .s (.int .i64 z3), .s (.int .i64 z4), .s (.int .i64 z5), .s (.int .i64 z6), .s (.int .i64 z7), .s (.int .i64 z8), .s (.int .i64 z9), .s (.int .i64 z10), .s (.int .i64 z11), .s (.int .i64 z12), .s (.int .i64 z13), .s (.int .i64 z14), .s (.int .i64 z15), .s (.int .i64 z16), .s (.int .i64 z17), .s (.int .i64 z18), .s (.int .i64 z19)] => if tt0 = 23 then some (z0, z1, z2, z3, z4, z5, z6, z7, z8, z9, z10, z11, z12, z13, z14, z15, z16, z17, z18, z19) else none
  | _ => none
theorem decOu_b1_ok (b : Blk) (y1 : (Int) × (Int) × (Int) × (Int) × (Int) × (Int) × (Int) × (Int) × (Int) × (Int) × (Int) × (Int) × (Int) × (Int) × (Int) × (Int) × (Int) × (Int) × (Int) × (Int)) (h : decOu_b1 b = some y1) : b = .cells 23 [iv (y1.1), iv (y1.2.1), iv (y1.2.2.1), iv (y1.2.2.2.1), iv (y1.2.2.2.2.1), iv (y1.2.2.2.2.2.1), iv (y1.2.2.2.2.2.2.1), iv (y1.2.2.2.2.2.2.2.1), iv (y1.2.2.2.2.2.2.2.2.1), iv (y1.2.2.2.2.2.2.2.2.2.1), iv (y1.2.2.2.2.2.2.2.2.2.2.1), iv (y1.2.2.2.2.2.2.2.2.2.2.2.1), iv (y1.2.2.2.2.2.2.2.2.2.2.2.2.1), iv (y1.2.2.2.2.2.2.2.2.2.2.2.2.2.1), iv (y1.2.2.2.2.2.2.2.2.2.2.2.2.2.2.1), iv (y1.2.2.2.2.2.2.2.2.2.2.2.2.2.2.2.1), iv (y1.2.2.2.2.2.2.2.2.2.2.2.2.2.2.2.2.1), iv (y1.2.2.2.2.2.2.2.2.2.2.2.2.2.2.2.2.2.1), iv (y1.2.2.2.2.2.2.2.2.2.2.2.2.2.2.2.2.2.2.1), iv (y1.2.2.2.2.2.2.2.2.2.2.2.2.2.2.2.2.2.2.2)] := by
  unfold decOu_b1 at h
  split at h
  · obtain ⟨e0, h⟩ := ite_some0 h
    subst e0
    cases h
    rfl
  · cases h
def decOu_b2 : Blk → Option ((List Int))
  | .lst true tt0 [.int .i64] v => if tt0 = 2 then some (v) else none
  | _ => none
theorem decOu_b2_ok (b : Blk) (y2 : (List Int)) (h : decOu_b2 b = some y2) : b = .lst true 2 [.int .i64] (y2) := by
  unfold decOu_b2 at h
  split at h
  · obtain ⟨e0, h⟩ := ite_some0 h
    subst e0
    cases h
    rfl
  · cases h
def decOu_b3 : Blk → Option ((List Bool))
  | .lst true tt0 [.bool] w => if tt0 = 4 then some (w) else none
  | _ => none
theorem decOu_b3_ok (b : Blk) (y3 : (List Bool)) (h : decOu_b3 b = some y3) : b = .lst true 4 [.bool] (y3) := by
  unfold decOu_b3 at h
  split at h
  · obtain ⟨e0, h⟩ := ite_some0 h
    subst e0
    cases h
    rfl
  · cases h
def decOu : List V → List Blk → Option (POu × AOu)
  | [v0, v1, v2, v3, v4, v5, v6, v7], [b0, b1, b2, b3] => (decOu_v0 v0).bind fun x0 => (decOu_v1 v1).bind fun x1 => (decOu_v2 v2).bind fun x2 => (decOu_v3 v3).bind fun x3 => (decOu_v4 v4).bind fun x4 => (decOu_v5 v5).bind fun x5 => (decOu_v6 v6).bind fun x6 => (decOu_v7 v7).bind fun x7 => (decOu_b0 b0).bind fun y0 => (decOu_b1 b1).bind fun y1 => (decOu_b2 b2).bind fun y2 => (decOu_b3 b3).bind fun y3 => some (⟨(x0), (x3), (x4), (y0.1), (y0.2.1), (y0.2.2.1), (y0.2.2.2.1), (y0.2.2.2.2.1), (y0.2.2.2.2.2.1), (y0.2.2.2.2.2.2.1), (y0.2.2.2.2.2.2.2.1), (y0.2.2.2.2.2.2.2.2.1), (y0.2.2.2.2.2.2.2.2.2.1), (y0.2.2.2.2.2.2.2.2.2.2.1), (y0.2.2.2.2.2.2.2.2.2.2.2.1), (y0.2.2.2.2.2.2.2.2.2.2.2.2.1), (y0.2.2.2.2.2.2.2.2.2.2.2.2.2.1), (y0.2.2.2.2.2.2.2.2.2.2.2.2.2.2.1), (y0.2.2.2.2.2.2.2.2.2.2.2.2.2.2.2.1), (y0.2.2.2.2.2.2.2.2.2.2.2.2.2.2.2.2.1), (y0.2.2.2.2.2.2.2.2.2.2.2.2.2.2.2.2.2.1), (y0.2.2.2.2.2.2.2.2.2.2.2.2.2.2.2.2.2.2.1), (y0.2.2.2.2.2.2.2.2.2.2.2.2.2.2.2.2.2.2.2), (y1.1), (y1.2.1), (y1.2.2.1), (y1.2.2.2.1), (y1.2.2.2.2.1), (y1.2.2.2.2.2.1), (y1.2.2.2.2.2.2.1), (y1.2.2.2.2.2.2.2.1), (y1.2.2.2.2.2.2.2.2.1), (y1.2.2.2.2.2.2.2.2.2.1), (y1.2.2.2.2.2.2.2.2.2.2.1), (y1.2.2.2.2.2.2.2.2.2.2.2.1), (y1.2.2.2.2.2.2.2.2.2.2.2.2.1), (y1.2.2.2.2.2.2.2.2.2.2.2.2.2.1), (y1.2.2.2.2.2.2.2.2.2.2.2.2.2.2.1), (y1.2.2.2.2.2.2.2.2.2.2.2.2.2.2.2.1), (y1.2.2.2.2.2.2.2.2.2.2.2.2.2.2.2.2.1), (y1.2.2.2.2.2.2.2.2.2.2.2.2.2.2.2.2.2.1), (y1.2.2.2.2.2.2.2.2.2.2.2.2.2.2.2.2.2.2.1), (y1.2.2.2.2.2.2.2.2.2.2.2.2.2.2.2.2.2.2.2)⟩, ⟨(x5), (x6), (x7), (y2), (y3)⟩)
  | _, _ => none
theorem decOu_ok (l : List V) (b : List Blk) (d : POu × AOu) (h : decOu l b = some d) : l = vsOu d.1 d.2 ∧ b = bsOu d.1 d.2 := by
  unfold decOu at h
  split at h
  · obtain ⟨x0, hx0, h⟩ := Option.bind_eq_some_iff.1 h
    obtain ⟨x1, hx1, h⟩ := Option.bind_eq_some_iff.1 h
    obtain ⟨x2, hx2, h⟩ := Option.bind_eq_some_iff.1 h
    obtain ⟨x3, hx3, h⟩ := Option.bind_eq_some_iff.1 h
    obtain ⟨x4, hx4, h⟩ := Option.bind_eq_some_iff.1 h
    obtain ⟨x5, hx5, h⟩ := Option.bind_eq_some_iff.1 h
    obtain ⟨x6, hx6, h⟩ := Option.bind_eq_some_iff.1 h
    obtain ⟨x7, hx7, h⟩ := Option.bind_eq_some_iff.1 h
    obtain ⟨y0, hy0, h⟩ := Option.bind_eq_some_iff.1 h
    obtain ⟨y1, hy1, h⟩ := Option.bind_eq_some_iff.1 h
    obtain ⟨y2, hy2, h⟩ := Option.bind_eq_some_iff.1 h
    obtain ⟨y3, hy3, h⟩ := Option.bind_eq_some_iff.1 h
    have ex0 := decOu_v0_ok _ _ hx0
    have ex1 := decOu_v1_ok _ _ hx1
    have ex2 := decOu_v2_ok _ _ hx2
    have ex3 := decOu_v3_ok _ _ hx3
    have ex4 := decOu_v4_ok _ _ hx4
    have ex5 := decOu_v5_ok _ _ hx5
    have ex6 := decOu_v6_ok _ _ hx6
    have ex7 := decOu_v7_ok _ _ hx7
    have ey0 := decOu_b0_ok _ _ hy0
    have ey1 := decOu_b1_ok _ _ hy1
    have ey2 := decOu_b2_ok _ _ hy2
    have ey3 := decOu_b3_ok _ _ hy3
    cases h
    subst ex0 ex1 ex2 ex3 ex4 ex5 ex6 ex7 ey0 ey1 ey2 ey3
    exact ⟨rfl, rfl⟩
  · cases h
noncomputable def rgOu : Nat := (firstReg lpOu).getD 0
theorem rgOu_is : firstReg lpOu = some rgOu := by kernel_rfl
end Go.Proofs.YtdangjhbkffbnaaDoor.Txt

/- Layer 4: the document's Parse: a round of its loop over lines. -/
namespace Go.Proofs.YtdangjhbkffbnaaDoor.Txt
open Go.Eng Go.RowKit
set_option linter.unusedVariables false
set_option linter.unusedSimpArgs false
set_option maxRecDepth 100000
def qA (p : POu) (a : AOu) : PIa := ⟨p.s, p.n, p.q, IntKind.wrap .i64 (a.k + 1), a.i, a.i, p.c0, p.c1, p.c2, p.c3, p.c4, p.c5, p.c6, p.c7, p.c8, p.c9, p.c10, p.c11, p.c12, p.c13, p.c14, p.c15, p.c16, p.c17, p.c18, p.c19, p.z0, p.z1, p.z2, p.z3, p.z4, p.z5, p.z6, p.z7, p.z8, p.z9, p.z10, p.z11, p.z12, p.z13, p.z14, p.z15, p.z16, p.z17, p.z18, p.z19, a.v, a.w, a.f⟩
noncomputable def xA (p : POu) (a : AOu) : Int := (endW (nxtC okIa goIa rdIa FIa muIa (qA p a)) ⟨a.f⟩).a
noncomputable def qB (p : POu) (a : AOu) : PIb := ⟨p.s, p.n, p.q, IntKind.wrap .i64 (a.k + 1), a.i, xA p a, p.c0, p.c1, p.c2, p.c3, p.c4, p.c5, p.c6, p.c7, p.c8, p.c9, p.c10, p.c11, p.c12, p.c13, p.c14, p.c15, p.c16, p.c17, p.c18, p.c19, p.z0, p.z1, p.z2, p.z3, p.z4, p.z5, p.z6, p.z7, p.z8, p.z9, p.z10, p.z11, p.z12, p.z13, p.z14, p.z15, p.z16, p.z17, p.z18, p.z19, a.v, a.w, a.i⟩
noncomputable def xB (p : POu) (a : AOu) : Int := (endW (nxtC okIb goIb rdIb FIb muIb (qB p a)) ⟨a.i⟩).b
noncomputable def lnO (p : POu) (a : AOu) : ByteArray := p.s.extract (Int.toNat (xA p a)) (Int.toNat (xB p a))
noncomputable def kO (p : POu) (a : AOu) : Int := linI (lnO p a)
def inO (p : POu) (a : AOu) : Bool := bif decide (a.i < (p.s.size : Int)) == true && true then decide (0 ≤ a.i) && decide (a.i < (p.s.size : Int)) else true
def skO (p : POu) (a : AOu) : Bool := bif decide (a.i < (p.s.size : Int)) then byteAt p.s a.i != 10 else false
noncomputable def bdO (p : POu) (a : AOu) : Bool := bif decide (xA p a < xB p a) == true && true then decide (0 ≤ xA p a) && decide (xA p a < (p.s.size : Int)) else true
noncomputable def ntO (p : POu) (a : AOu) : Bool := bif decide (xA p a < xB p a) then byteAt p.s (xA p a) != 35 else false
noncomputable def slO (p : POu) (a : AOu) : Bool := decide (0 ≤ xA p a) && (decide (xA p a ≤ xB p a) && decide (xB p a ≤ (p.s.size : Int)))
noncomputable def ixO (p : POu) (a : AOu) : Bool := bif decide (kO p a < 0) == false && true then idR a.w p.q (kO p a) else true
noncomputable def ldO (p : POu) (a : AOu) : Bool := bif decide (kO p a < 0) == false && true then ldR a.w (kO p a) else true
noncomputable def wsO (p : POu) (a : AOu) : Bool := bif decide (kO p a < 0) then true else a.w.getD (0 + (kO p a).toNat) false
def h1O (p : POu) (a : AOu) (b : Bool) : List (Bool × Bool) := [(decide (a.i ≤ (p.s.size : Int)), true), (inO p a, true), (skO p a, b)]
noncomputable def h2O (p : POu) (a : AOu) (b : Bool) : List (Bool × Bool) := h1O p a false ++ [(invC okIa (qA p a) ⟨a.f⟩, true), (invC okIb (qB p a) ⟨a.i⟩, true), (bdO p a, true), (ntO p a, b)]
noncomputable def h3O (p : POu) (a : AOu) (b : Bool) : List (Bool × Bool) := h2O p a true ++ [(slO p a, true), (decide ((lnO p a).size ≤ 1000000), true), (ixO p a, true), (ldO p a, true), (wsO p a, b)]
def dupO (p : POu) : POu := ⟨p.s, p.n, p.q, p.c0, p.c1, p.c2, p.c3, p.c4, p.c5, p.c6, p.c7, p.c8, p.c9, p.c10, p.c11, p.c12, p.c13, p.c14, p.c15, p.c16, p.c17, p.c18, p.c19, p.c0, p.c1, p.c2, p.c3, p.c4, p.c5, p.c6, p.c7, p.c8, p.c9, p.c10, p.c11, p.c12, p.c13, p.c14, p.c15, p.c16, p.c17, p.c18, p.c19⟩
def stFO (p : POu) (a : AOu) : St := mkSt [2, 4, 5, 6, 7] [0, 8, 16, 24] 4000 108 [.ptr 0 0, .ptr 8 0, iv 4, iv (IntKind.wrap .i64 (a.k + 1)), .sub 16 1 0 p.n] (bsOu (dupO p) a)
def stXO (p : POu) (a : AOu) : St := mkSt [2, 4, 5, 6, 7] [0, 8, 16, 24] 4000 108 [.ptr 0 0, .ptr 8 0, .junk, .junk, .sub 16 1 0 p.n] (bsOu p a)
theorem ou_s (p : POu) (a : AOu) : T.path [true, true, true] (rdOu p a) = some (h1O p a true, (.normal, FOu p ⟨a.f, a.k, IntKind.wrap .i64 (a.i + 1), a.v, a.w⟩)) := by kernel_rfl
theorem ou_x (p : POu) (a : AOu) : T.path [false] (rdOu p a) = some ([(decide (a.i ≤ (p.s.size : Int)), false)], (.exit 0, stXO p a)) := by kernel_rfl
theorem ou_b (p : POu) (a : AOu) : T.path [true, true, false, true, true, true, false] (rdOu p a) = some (h2O p a false, (.normal, FOu p ⟨IntKind.wrap .i64 (a.i + 1), IntKind.wrap .i64 (a.k + 1), IntKind.wrap .i64 (a.i + 1), a.v, a.w⟩)) := by kernel_rfl
theorem ou_f (p : POu) (a : AOu) : T.path [true, true, false, true, true, true, true, true, true, true, true, true] (rdOu p a) = some (h3O p a true, (.ret, stFO p a)) := by kernel_rfl
theorem ou_n (p : POu) (a : AOu) : T.path [true, true, false, true, true, true, true, true, true, true, true, false, true, true, true, true] (rdOu p a) = some (h3O p a false ++ [(idR a.v p.n (kO p a), true), (ldR a.v (kO p a), true), (idR a.w p.q (kO p a), true), (ldR a.w (kO p a), true)], (.normal, FOu p ⟨IntKind.wrap .i64 (a.i + 1), IntKind.wrap .i64 (a.k + 1), IntKind.wrap .i64 (a.i + 1), a.v.set (0 + (kO p a).toNat) (linW (lnO p a)), a.w.set (0 + (kO p a).toNat) true⟩)) := by kernel_rfl
end Go.Proofs.YtdangjhbkffbnaaDoor.Txt

/- Layer 4: parts of a text; a line taken by the document's line. -/
namespace Go.Proofs.YtdangjhbkffbnaaDoor.Txt
open Go.Eng Go.RowKit
set_option linter.unusedVariables false
set_option linter.unusedSimpArgs false
set_option maxRecDepth 100000
/-- the bytes from x to y -/
def seg (s : ByteArray) (x y : Int) : List UInt8 := ((L8 s).drop x.toNat).take (y - x).toNat
theorem seg_app {s : ByteArray} {x y z : Int} (h0 : 0 ≤ x) (h1 : x ≤ y) (h2 : y ≤ z) : seg s x z = seg s x y ++ seg s y z := by
  unfold seg
  rw [show (z - x).toNat = (y - x).toNat + (z - y).toNat by omega, List.take_add, List.drop_drop, show x.toNat + (y - x).toNat = y.toNat by omega]
theorem seg_one {s : ByteArray} {x : Int} (h0 : 0 ≤ x) (h1 : x < (s.size : Int)) : seg s x (x + 1) = [(L8 s).getD x.toNat 0] := by
  have hl : x.toNat < (L8 s).length := by rw [L8_len]; omega
  unfold seg
  rw [show (x + 1 - x).toNat = 1 by omega, List.drop_eq_getElem_cons hl, List.getD_eq_getElem?_getD, List.getElem?_eq_getElem hl]
  rfl
theorem seg_nil {s : ByteArray} {x y : Int} (h : y ≤ x) : seg s x y = [] := by
  unfold seg
  rw [show (y - x).toNat = 0 by omega, List.take_zero]
theorem seg_mem {s : ByteArray} {x y : Int} (h0 : 0 ≤ x) (h1 : y ≤ (s.size : Int)) {b : UInt8} (hb : b ∈ seg s x y) : ∃ j : Nat, x ≤ (j : Int) ∧ (j : Int) < y ∧ b = (L8 s).getD j 0 := by
  unfold seg at hb
  obtain ⟨n, hn, rfl⟩ := List.mem_iff_getElem.1 hb
  rw [List.length_take, List.length_drop] at hn
  refine ⟨x.toNat + n, by omega, by omega, ?_⟩
  rw [List.getElem_take, List.getElem_drop, List.getD_eq_getElem?_getD, List.getElem?_eq_getElem (by rw [L8_len] at *; omega)]
  rfl
theorem byte_is (s : ByteArray) (j : Int) (c : UInt8) : byteAt s j = ((c.toNat : Nat) : Int) ↔ (L8 s).getD j.toNat 0 = c := by
  rw [byteAt_L8]
  refine ⟨fun h => UInt8.toNat_inj.1 (by omega), fun h => by rw [h]⟩
theorem bl_seg {s : ByteArray} {x y : Int} (h : bl s x y) (h0 : 0 ≤ x) (h1 : y ≤ (s.size : Int)) : ∀ b ∈ seg s x y, b = 32 := by
  intro b hb
  obtain ⟨j, j1, j2, rfl⟩ := seg_mem h0 h1 hb
  have := (byte_is s (j : Int) 32).1 (h j j1 j2)
  rw [Int.toNat_natCast] at this; exact this
theorem ext_seg (s : ByteArray) {x y : Int} (h0 : 0 ≤ x) (h1 : x ≤ y) : L8 (s.extract (Int.toNat x) (Int.toNat y)) = seg s x y := by
  unfold seg L8
  rw [ByteArray.data_extract, Array.toList_extract, List.extract_eq_take_drop, show y.toNat - x.toNat = (y - x).toNat by omega]
/-- a line, taken as the document's line tells it -/
theorem takF_lin (l : List ByteArray) {s : ByteArray} (hn : noteB s = false) : takF l s = match linF s with
    | none => .no
    | some x => bif l.any (eB (nmK x.1)) then .no else .set x.1 x.2 (nmK x.1) := by
  unfold takF linF
  rw [hn]
  show (bif !OKc s then Tk.no else bif l.any (eB (NAM s)) then .no else match prtI (NAM s) with
    | none => .no
    | some k => bif qK k (VAL s) then .set k (vK k (VAL s)) (NAM s) else .no) = _
  cases ho : OKc s with
  | false => rfl
  | true =>
    show (bif l.any (eB (NAM s)) then Tk.no else match prtI (NAM s) with
      | none => .no
      | some k => bif qK k (VAL s) then .set k (vK k (VAL s)) (NAM s) else .no) = match (match prtI (NAM s) with
        | none => none
        | some k => bif qK k (VAL s) then some (k, vK k (VAL s)) else none) with
      | none => .no
      | some x => bif l.any (eB (nmK x.1)) then .no else .set x.1 x.2 (nmK x.1)
    cases hp : prtI (NAM s) with
    | none => cases l.any (eB (NAM s)) <;> rfl
    | some k =>
      have e : NAM s = nmK k := eB_is.1 (prtI_some hp).2.1
      rw [e]
      show (bif l.any (eB (nmK k)) then Tk.no else bif qK k (VAL s) then .set k (vK k (VAL s)) (nmK k) else .no) = match (bif qK k (VAL s) then some (k, vK k (VAL s)) else none) with
        | none => .no
        | some x => bif l.any (eB (nmK x.1)) then .no else .set x.1 x.2 (nmK x.1)
      cases qK k (VAL s) with
      | false => cases l.any (eB (nmK k)) <;> rfl
      | true => rfl
/-- which names were said -/
def wasL (l : List ByteArray) : List Bool := (List.range 20).map fun j => l.any (eB (nmK j))
theorem wasL_len (l : List ByteArray) : (wasL l).length = 20 := by unfold wasL; rw [List.length_map, List.length_range]
theorem wasL_get (l : List ByteArray) {k : Nat} (hk : k < 20) : (wasL l).getD k false = l.any (eB (nmK k)) := by
  rw [List.getD_eq_getElem?_getD]
  unfold wasL
  rw [List.getElem?_map, List.getElem?_range hk]; rfl
theorem wasL_set (l : List ByteArray) {k : Nat} (hk : k < 20) : (wasL l).set k true = wasL (l ++ [nmK k]) := by
  apply List.ext_getElem
  · rw [List.length_set, wasL_len, wasL_len]
  · intro j h1 h2
    rw [List.length_set, wasL_len] at h1
    rw [List.getElem_set]
    have g : ∀ (r : List ByteArray) (h : j < (wasL r).length), (wasL r)[j] = r.any (eB (nmK j)) := fun r h => by
      have := wasL_get r h1
      rw [List.getD_eq_getElem?_getD, List.getElem?_eq_getElem h] at this
      exact this
    rw [g, g, List.any_append]
    by_cases e : k = j
    · subst e
      rw [if_pos rfl]
      have : eB (nmK k) (nmK k) = true := eB_is.2 rfl
      simp [this]
    · rw [if_neg e]
      have : eB (nmK j) (nmK k) = false := by
        cases q : eB (nmK j) (nmK k) with
        | false => rfl
        | true => exact absurd (nm_eq h1 hk (eB_is.1 q)).symm e
      simp [this]
theorem linF_lt {s : ByteArray} {x : Nat × Int} (h : linF s = some x) : x.1 < 20 := by
  unfold linF at h
  cases ho : OKc s with
  | false => rw [ho] at h; cases h
  | true =>
    rw [ho] at h
    cases hp : prtI (NAM s) with
    | none => rw [hp] at h; cases h
    | some k =>
      rw [hp] at h
      have h : (bif qK k (VAL s) then some (k, vK k (VAL s)) else none) = some x := h
      cases hq : qK k (VAL s) with
      | false => rw [hq] at h; cases h
      | true =>
        rw [hq] at h
        obtain rfl := Option.some.inj h
        exact (prtI_some hp).1
/-- the first line of what is left, and what is left behind it -/
theorem cut_seg {s : ByteArray} {f i : Int} (h0 : 0 ≤ f) (h1 : f ≤ i) (h2 : i ≤ (s.size : Int)) (hn : ∀ j : Nat, f ≤ (j : Int) → (j : Int) < i → byteAt s (j : Int) ≠ 10) (hi : i < (s.size : Int) → byteAt s i = 10) :
    cutF ((L8 s).drop f.toNat) [10] = (seg s f i, (L8 s).drop (i + 1).toNat, decide (i < (s.size : Int))) := by
  have hs : ∀ b ∈ seg s f i, b ≠ 10 := by
    intro b hb e
    obtain ⟨j, j1, j2, rfl⟩ := seg_mem h0 h2 hb
    exact hn j j1 j2 ((byte_is s (j : Int) 10).2 (by rw [Int.toNat_natCast]; exact e))
  by_cases q : i < (s.size : Int)
  · rw [decide_eq_true q]
    have hl : i.toNat < (L8 s).length := by rw [L8_len]; omega
    have := cut_nl (R := (L8 s).drop f.toNat) (n := (i - f).toNat) hs (by
      rw [List.getElem?_drop, show f.toNat + (i - f).toNat = i.toNat by omega]
      have := (byte_is s i 10).1 (hi q)
      rw [List.getD_eq_getElem?_getD, List.getElem?_eq_getElem hl] at this
      rw [List.getElem?_eq_getElem hl]
      exact congrArg some this)
    rw [this, List.drop_drop, show f.toNat + ((i - f).toNat + 1) = (i + 1).toNat by omega]
    rfl
  · rw [decide_eq_false q]
    have e : (L8 s).drop f.toNat = seg s f i := by
      unfold seg
      rw [List.take_of_length_le]
      rw [List.length_drop, L8_len]; omega
    rw [e, cut_end hs, List.drop_of_length_le (by rw [L8_len]; omega)]
end Go.Proofs.YtdangjhbkffbnaaDoor.Txt

/- Layer 4: the document's Parse: its loop over lines. -/
namespace Go.Proofs.YtdangjhbkffbnaaDoor.Txt
open Go.Eng Go.RowKit
set_option linter.unusedVariables false
set_option linter.unusedSimpArgs false
set_option maxRecDepth 100000
def pO (s : ByteArray) (c z : Cf) : POu := ⟨s, 20, 20, c.target, c.util, c.stable, c.panic, c.grain, c.threshold, c.up, c.down, c.min, c.max, c.initial, c.grace, c.delay, c.burst, c.limit, c.queue, c.timeout, c.ready, c.subset, c.sample, z.target, z.util, z.stable, z.panic, z.grain, z.threshold, z.up, z.down, z.min, z.max, z.initial, z.grace, z.delay, z.burst, z.limit, z.queue, z.timeout, z.ready, z.subset, z.sample⟩
/-- the state ahead of a round: what was said, what is left -/
structure okOx (G : Option Cf × Int) (s : ByteArray) (f k i : Int) (r : Cf) (l : List ByteArray) : Prop where
  z : s.size ≤ 90000
  f0 : 0 ≤ f
  f1 : f ≤ i
  i1 : i ≤ (s.size : Int) + 1
  k0 : 0 ≤ k
  k1 : k ≤ i
  t : i ≤ (s.size : Int) → (∀ j : Nat, f ≤ (j : Int) → (j : Int) < i → byteAt s (j : Int) ≠ 10) ∧ ∃ n : Nat, ((s.size : Int) - f).toNat < n ∧ G = pG n r l (byA ((L8 s).drop f.toNat)) (k + 1)
  e : i = (s.size : Int) + 1 → G = (some r, 0)
def aO (f k i : Int) (r : Cf) (l : List ByteArray) : AOu := ⟨f, k, i, cfL r, wasL l⟩
def okOu (p : POu) (a : AOu) : Prop := ∃ (s : ByteArray) (c z r : Cf) (f k i : Int) (l : List ByteArray) (G : Option Cf × Int), p = pO s c z ∧ a = aO f k i r l ∧ okOx G s f k i r l
noncomputable def goOu (p : POu) (a : AOu) : Bool := decide (a.i ≤ (p.s.size : Int)) && (skO p a || (!ntO p a || !wsO p a))
def muOu (p : POu) (a : AOu) : Nat := ((p.s.size : Int) + 1 - a.i).toNat
/-- a round behind a line's end -/
structure lineO (s : ByteArray) (c z : Cf) (a : AOu) : Prop where
  h : allSay (h1O (pO s c z) a false)
  ia : invC okIa (qA (pO s c z) a) ⟨a.f⟩ = true
  ib : invC okIb (qB (pO s c z) a) ⟨a.i⟩ = true
  bd : bdO (pO s c z) a = true
  l : lnO (pO s c z) a = byA (trB (seg s a.f a.i) 32)
  x0 : 0 ≤ xA (pO s c z) a
  x1 : xA (pO s c z) a ≤ xB (pO s c z) a
  x2 : xB (pO s c z) a ≤ (s.size : Int)
  n : ntO (pO s c z) a = !noteB (lnO (pO s c z) a)
theorem line_at {s : ByteArray} {c z : Cf} {a : AOu} (hz : s.size ≤ 90000) (h0 : 0 ≤ a.f) (h1 : a.f ≤ a.i) (h2 : a.i ≤ (s.size : Int)) (hs : skO (pO s c z) a = false) : lineO s c z a := by
  have i0 : okIa (qA (pO s c z) a) ⟨a.f⟩ := ⟨h0, Int.le_refl _, h1, h2, by show s.size ≤ 1000000; omega, fun j j1 j2 => by
    have j1 : a.f ≤ (j : Int) := j1
    have j2 : (j : Int) < a.f := j2
    omega⟩
  obtain ⟨ka, ga⟩ := endC stepIa i0
  have ka : okIa (qA (pO s c z) a) ⟨xA (pO s c z) a⟩ := ka
  have ga : goIa (qA (pO s c z) a) ⟨xA (pO s c z) a⟩ = false := ga
  obtain ⟨-, a1, a2, -, -, ab⟩ := ka
  have a1 : a.f ≤ xA (pO s c z) a := a1
  have a2 : xA (pO s c z) a ≤ a.i := a2
  have ab : bl s a.f (xA (pO s c z) a) := ab
  have j0 : okIb (qB (pO s c z) a) ⟨a.i⟩ := ⟨by show 0 ≤ xA (pO s c z) a; omega, a2, Int.le_refl _, h2, by show s.size ≤ 1000000; omega, fun j j1 j2 => by
    have j1 : a.i ≤ (j : Int) := j1
    have j2 : (j : Int) < a.i := j2
    omega⟩
  obtain ⟨kb, gb⟩ := endC stepIb j0
  have kb : okIb (qB (pO s c z) a) ⟨xB (pO s c z) a⟩ := kb
  have gb : goIb (qB (pO s c z) a) ⟨xB (pO s c z) a⟩ = false := gb
  obtain ⟨-, b1, b2, -, -, bb⟩ := kb
  have b1 : xA (pO s c z) a ≤ xB (pO s c z) a := b1
  have b2 : xB (pO s c z) a ≤ a.i := b2
  have bb : bl s (xB (pO s c z) a) a.i := bb
  have ea : xA (pO s c z) a < xB (pO s c z) a → byteAt s (xA (pO s c z) a) ≠ 32 := by
    intro q
    unfold goIa at ga
    have ga : (bif decide (xA (pO s c z) a < a.i) then byteAt s (xA (pO s c z) a) == 32 else false) = false := ga
    rw [decide_eq_true (show xA (pO s c z) a < a.i by omega)] at ga
    exact beq_eq_false_iff_ne.1 ga
  have eb : xA (pO s c z) a < xB (pO s c z) a → byteAt s (xB (pO s c z) a - 1) ≠ 32 := by
    intro q
    unfold goIb at gb
    have gb : (bif decide (xA (pO s c z) a < xB (pO s c z) a) then byteAt s (IntKind.wrap .i64 (xB (pO s c z) a - 1)) == 32 else false) = false := gb
    rw [decide_eq_true q, wrap64 (n := xB (pO s c z) a - 1) (by omega) (by omega)] at gb
    exact beq_eq_false_iff_ne.1 gb
  have hln : L8 (lnO (pO s c z) a) = seg s (xA (pO s c z) a) (xB (pO s c z) a) := ext_seg s (by omega) b1
  have hl : lnO (pO s c z) a = byA (trB (seg s a.f a.i) 32) := by
    apply of_L8
    rw [L8_byA, hln, seg_app h0 a1 (show xA (pO s c z) a ≤ a.i by omega), seg_app (by omega) b1 b2]
    symm
    apply trB_mid (bl_seg ab h0 (by omega)) (bl_seg bb (by omega) h2)
    by_cases q : xA (pO s c z) a < xB (pO s c z) a
    · refine .inr ⟨⟨(L8 s).getD (xA (pO s c z) a).toNat 0, seg s (xA (pO s c z) a + 1) (xB (pO s c z) a), ?_, fun e => ea q ((byte_is s _ 32).2 e)⟩, seg s (xA (pO s c z) a) (xB (pO s c z) a - 1), (L8 s).getD (xB (pO s c z) a - 1).toNat 0, ?_, fun e => eb q ((byte_is s _ 32).2 e)⟩
      · rw [seg_app (y := xA (pO s c z) a + 1) (by omega) (by omega) (by omega), seg_one (by omega) (by omega)]; rfl
      · have e1 := seg_one (s := s) (x := xB (pO s c z) a - 1) (by omega) (by omega)
        rw [show xB (pO s c z) a - 1 + 1 = xB (pO s c z) a by omega] at e1
        rw [seg_app (y := xB (pO s c z) a - 1) (by omega) (by omega) (by omega), e1]
    · exact .inl (seg_nil (by omega))
  have hb : bdO (pO s c z) a = true := by
    unfold bdO
    by_cases q : xA (pO s c z) a < xB (pO s c z) a
    · rw [decide_eq_true q, decide_eq_true (show 0 ≤ xA (pO s c z) a by omega), decide_eq_true (show xA (pO s c z) a < ((pO s c z).s.size : Int) by show xA (pO s c z) a < (s.size : Int); omega)]; rfl
    · rw [decide_eq_false q]; rfl
  have hi : inO (pO s c z) a = true := by
    unfold inO
    by_cases q : a.i < ((pO s c z).s.size : Int)
    · rw [decide_eq_true q, decide_eq_true (show 0 ≤ a.i by omega)]; rfl
    · rw [decide_eq_false q]; rfl
  have hn : ntO (pO s c z) a = !noteB (lnO (pO s c z) a) := by
    unfold ntO noteB e0B
    by_cases q : xA (pO s c z) a < xB (pO s c z) a
    · have hne : eB (lnO (pO s c z) a) ⟨#[]⟩ = false := by
        cases hq : eB (lnO (pO s c z) a) ⟨#[]⟩ with
        | false => rfl
        | true =>
          exfalso
          have h := congrArg L8 (eB_is.1 hq)
          rw [hln, seg_app (y := xA (pO s c z) a + 1) (by omega) (by omega) (by omega), seg_one (by omega) (by omega)] at h
          cases h
      have hby : byteAt (lnO (pO s c z) a) 0 = byteAt s (xA (pO s c z) a) := by
        rw [byteAt_L8, byteAt_L8, hln, seg_app (y := xA (pO s c z) a + 1) (by omega) (by omega) (by omega), seg_one (by omega) (by omega)]
        rfl
      rw [decide_eq_true q, hne, hby]
      rfl
    · have he : eB (lnO (pO s c z) a) ⟨#[]⟩ = true := eB_is.2 (of_L8 (by rw [hln, seg_nil (by omega)]; rfl))
      rw [decide_eq_false q, he]; rfl
  exact ⟨⟨decide_eq_true h2, hi, hs, trivial⟩, invC_is i0, invC_is j0, hb, hl, by omega, b1, by omega, hn⟩
end Go.Proofs.YtdangjhbkffbnaaDoor.Txt

/- Layer 4: the document's Parse: contract. -/
namespace Go.Proofs.YtdangjhbkffbnaaDoor.Txt
open Go.Eng Go.RowKit
set_option linter.unusedVariables false
set_option linter.unusedSimpArgs false
set_option maxRecDepth 100000
theorem h2O_say {s : ByteArray} {c z : Cf} {a : AOu} (h : lineO s c z a) {b : Bool} (hb : ntO (pO s c z) a = b) : allSay (h2O (pO s c z) a b) := allSay_append h.h ⟨h.ia, h.ib, h.bd, hb, trivial⟩
theorem lnO_size {s : ByteArray} {c z : Cf} {a : AOu} (h : lineO s c z a) : (lnO (pO s c z) a).size ≤ s.size := by
  rw [h.l, byA_size]
  unfold trB
  have a1 := dropW_len 32 (trR (seg s a.f a.i) 32)
  have b1 := trR_len (seg s a.f a.i) 32
  have c1 : (seg s a.f a.i).length ≤ s.size := by
    unfold seg
    rw [List.length_take, List.length_drop, L8_len]; omega
  omega
theorem kO_none {s : ByteArray} {c z : Cf} {a : AOu} (h : linF (lnO (pO s c z) a) = none) : kO (pO s c z) a = -1 := (lin_none h).1
theorem kO_some {s : ByteArray} {c z : Cf} {a : AOu} {k : Nat} {x : Int} (h : linF (lnO (pO s c z) a) = some (k, x)) : kO (pO s c z) a = (k : Int) ∧ linW (lnO (pO s c z) a) = x := lin_some h
/-- a line that is none: which it is; else what it says -/
theorem ws_is {s : ByteArray} {c z r : Cf} {f k i : Int} {l : List ByteArray} : (linF (lnO (pO s c z) (aO f k i r l)) = none ∧ wsO (pO s c z) (aO f k i r l) = true) ∨ ∃ (j : Nat) (x : Int), linF (lnO (pO s c z) (aO f k i r l)) = some (j, x) ∧ j < 20 ∧ kO (pO s c z) (aO f k i r l) = (j : Int) ∧ wsO (pO s c z) (aO f k i r l) = l.any (eB (nmK j)) := by
  cases h : linF (lnO (pO s c z) (aO f k i r l)) with
  | none =>
    refine .inl ⟨rfl, ?_⟩
    unfold wsO
    rw [kO_none h]; rfl
  | some y =>
    obtain ⟨j, x⟩ := y
    have hj := linF_lt h
    obtain ⟨e1, e2⟩ := kO_some h
    refine .inr ⟨j, x, rfl, hj, e1, ?_⟩
    unfold wsO
    rw [e1, decide_eq_false (show ¬ ((j : Nat) : Int) < 0 by omega), show 0 + Int.toNat ((j : Nat) : Int) = j by omega]
    exact wasL_get l hj
theorem h3O_say {s : ByteArray} {c z r : Cf} {f k i : Int} {l : List ByteArray} (hz : s.size ≤ 90000) (h : lineO s c z (aO f k i r l)) (hn : ntO (pO s c z) (aO f k i r l) = true) {b : Bool} (hb : wsO (pO s c z) (aO f k i r l) = b) : allSay (h3O (pO s c z) (aO f k i r l) b) := by
  have h1 := lnO_size h
  have x0 := h.x0
  have x1 := h.x1
  have x2 := h.x2
  refine allSay_append (h2O_say h hn) ⟨?_, decide_eq_true (by omega), ?_, ?_, hb, trivial⟩
  · unfold slO
    rw [decide_eq_true x0, decide_eq_true x1, decide_eq_true (show xB (pO s c z) (aO f k i r l) ≤ ((pO s c z).s.size : Int) from x2)]; rfl
  · unfold ixO
    rcases ws_is (s := s) (c := c) (z := z) (r := r) (f := f) (k := k) (i := i) (l := l) with ⟨e, -⟩ | ⟨j, x, e, hj, ek, -⟩
    · rw [kO_none e]; rfl
    · rw [ek, decide_eq_false (show ¬ ((j : Nat) : Int) < 0 by omega)]
      exact (idR_is (g := wasL l) (k := 20) (i := (j : Int)) (wasL_len l).symm (by omega) (by omega)).1
  · unfold ldO
    rcases ws_is (s := s) (c := c) (z := z) (r := r) (f := f) (k := k) (i := i) (l := l) with ⟨e, -⟩ | ⟨j, x, e, hj, ek, -⟩
    · rw [kO_none e]; rfl
    · rw [ek, decide_eq_false (show ¬ ((j : Nat) : Int) < 0 by omega)]
      exact (idR_is (g := wasL l) (k := 20) (i := (j : Int)) (wasL_len l).symm (by omega) (by omega)).2
theorem sk_no {s : ByteArray} {c z : Cf} {a : AOu} (h : skO (pO s c z) a = false) : a.i < (s.size : Int) → byteAt s a.i = 10 := by
  intro q
  unfold skO at h
  rw [decide_eq_true (show a.i < ((pO s c z).s.size : Int) from q)] at h
  have h : (byteAt s a.i != 10) = false := h
  simpa using h
theorem pG_succ (m : Nat) (r : Cf) (l : List ByteArray) (s : ByteArray) (k : Int) : pG (m + 1) r l s k = match ttP l s with
    | .no => (none, k)
    | .same => bif moP s then pG m r l (rsP s) (k + 1) else (some r, 0)
    | .set j v x => bif moP s then pG m (setC j v r) (l ++ [x]) (rsP s) (k + 1) else (some (setC j v r), 0) := rfl
/-- how the lines go on behind a line -/
theorem line_pG {G : Option Cf × Int} {s : ByteArray} {f k i : Int} {r c z : Cf} {l : List ByteArray} (hx : okOx G s f k i r l) (hi : i ≤ (s.size : Int)) (h : lineO s c z (aO f k i r l)) (hs : skO (pO s c z) (aO f k i r l) = false) :
    ∃ m : Nat, ((s.size : Int) - f).toNat < m + 1 ∧ G = match takF l (lnO (pO s c z) (aO f k i r l)) with
      | .no => (none, k + 1)
      | .same => bif decide (i < (s.size : Int)) then pG m r l (byA ((L8 s).drop (i + 1).toNat)) (k + 1 + 1) else (some r, 0)
      | .set j v x => bif decide (i < (s.size : Int)) then pG m (setC j v r) (l ++ [x]) (byA ((L8 s).drop (i + 1).toNat)) (k + 1 + 1) else (some (setC j v r), 0) := by
  obtain ⟨hn, n, h1, h2⟩ := hx.t hi
  cases n with
  | zero => omega
  | succ m =>
    refine ⟨m, h1, ?_⟩
    have hc : cuP (byA ((L8 s).drop f.toNat)) = (seg s f i, (L8 s).drop (i + 1).toNat, decide (i < (s.size : Int))) := cut_seg hx.f0 hx.f1 hi hn (sk_no hs)
    have el : lnP (byA ((L8 s).drop f.toNat)) = lnO (pO s c z) (aO f k i r l) := by
      unfold lnP
      rw [hc, h.l]; rfl
    have er : rsP (byA ((L8 s).drop f.toNat)) = byA ((L8 s).drop (i + 1).toNat) := by unfold rsP; rw [hc]
    have em : moP (byA ((L8 s).drop f.toNat)) = decide (i < (s.size : Int)) := by unfold moP; rw [hc]
    rw [h2, pG_succ]
    unfold ttP
    rw [el, er, em]
theorem note_same (l : List ByteArray) {s : ByteArray} (h : noteB s = true) : takF l s = .same := by unfold takF; rw [h]; rfl
/-- one more round -/
theorem ou_on {G : Option Cf × Int} {s : ByteArray} {f k i : Int} {r c z : Cf} {l : List ByteArray} (hx : okOx G s f k i r l) (hg : goOu (pO s c z) (aO f k i r l) = true) :
    ∃ f' k' r' l', (rdOu (pO s c z) (aO f k i r l)).eval = some (.normal, FOu (pO s c z) (aO f' k' (i + 1) r' l')) ∧ okOx G s f' k' (i + 1) r' l' := by
  unfold goOu at hg
  rw [Bool.and_eq_true, decide_eq_true_eq] at hg
  obtain ⟨hi, hg⟩ := hg
  have hi : i ≤ (s.size : Int) := hi
  obtain ⟨z1, f0, f1, i1, k0, k1, ht, he⟩ := hx
  have wi : IntKind.wrap .i64 (i + 1) = i + 1 := wrap64 (by omega) (by omega)
  have wk : IntKind.wrap .i64 (k + 1) = k + 1 := wrap64 (by omega) (by omega)
  cases hs : skO (pO s c z) (aO f k i r l) with
  | true =>
    have q : i < (s.size : Int) := by
      by_cases q : i < (s.size : Int)
      · exact q
      · unfold skO at hs
        rw [decide_eq_false (show ¬ (aO f k i r l).i < ((pO s c z).s.size : Int) from q)] at hs
        cases hs
    have hb : byteAt s i ≠ 10 := by
      unfold skO at hs
      rw [decide_eq_true (show (aO f k i r l).i < ((pO s c z).s.size : Int) from q)] at hs
      have hs : (byteAt s i != 10) = true := hs
      simpa using hs
    have way := ou_s (pO s c z) (aO f k i r l)
    have ew : IntKind.wrap .i64 ((aO f k i r l).i + 1) = i + 1 := wi
    rw [ew] at way
    obtain ⟨hn, n, h1, h2⟩ := ht hi
    refine ⟨f, k, r, l, T.path_eval way ⟨decide_eq_true hi, ?_, hs, trivial⟩, z1, f0, by omega, by omega, k0, by omega, fun _ => ⟨fun j j1 j2 => ?_, n, h1, h2⟩, fun e => by omega⟩
    · unfold inO
      rw [decide_eq_true (show (aO f k i r l).i < ((pO s c z).s.size : Int) from q), decide_eq_true (show 0 ≤ (aO f k i r l).i from by show 0 ≤ i; omega)]; rfl
    · by_cases q2 : (j : Int) < i
      · exact hn j j1 q2
      · rw [show (j : Int) = i by omega]; exact hb
  | false =>
    rw [hs, Bool.false_or] at hg
    have hl := line_at (c := c) (z := z) (a := aO f k i r l) z1 f0 f1 hi hs
    obtain ⟨m, m1, hG⟩ := line_pG ⟨z1, f0, f1, i1, k0, k1, ht, he⟩ hi hl hs
    have ew : IntKind.wrap .i64 ((aO f k i r l).i + 1) = i + 1 := wi
    have ek : IntKind.wrap .i64 ((aO f k i r l).k + 1) = k + 1 := wk
    have fin : ∀ (r' : Cf) (l' : List ByteArray), G = (bif decide (i < (s.size : Int)) then pG m r' l' (byA ((L8 s).drop (i + 1).toNat)) (k + 1 + 1) else (some r', 0)) → okOx G s (i + 1) (k + 1) (i + 1) r' l' := by
      intro r' l' hG
      refine ⟨z1, by omega, Int.le_refl _, by omega, by omega, by omega, fun q => ⟨fun j j1 j2 => by omega, m, by omega, ?_⟩, fun q => ?_⟩
      · rw [decide_eq_true (show i < (s.size : Int) by omega)] at hG
        exact hG
      · rw [decide_eq_false (show ¬ i < (s.size : Int) by omega)] at hG
        exact hG
    cases hn : ntO (pO s c z) (aO f k i r l) with
    | false =>
      have hnote : noteB (lnO (pO s c z) (aO f k i r l)) = true := by
        have := hl.n
        rw [hn] at this
        cases q : noteB (lnO (pO s c z) (aO f k i r l)) with
        | true => rfl
        | false => rw [q] at this; cases this
      rw [note_same l hnote] at hG
      have way := ou_b (pO s c z) (aO f k i r l)
      rw [ew, ek] at way
      exact ⟨i + 1, k + 1, r, l, T.path_eval way (h2O_say hl hn), fin r l hG⟩
    | true =>
      rw [hn] at hg
      have hw : wsO (pO s c z) (aO f k i r l) = false := by
        cases q : wsO (pO s c z) (aO f k i r l) with
        | false => rfl
        | true => rw [q] at hg; cases hg
      have hnote : noteB (lnO (pO s c z) (aO f k i r l)) = false := by
        have := hl.n
        rw [hn] at this
        cases q : noteB (lnO (pO s c z) (aO f k i r l)) with
        | true => rw [q] at this; cases this
        | false => rfl
      rcases ws_is (s := s) (c := c) (z := z) (r := r) (f := f) (k := k) (i := i) (l := l) with ⟨-, e⟩ | ⟨j, x, e, hj, ekk, ew2⟩
      · rw [hw] at e; cases e
      · rw [takF_lin l hnote, e] at hG
        have hany : l.any (eB (nmK j)) = false := by rw [← ew2]; exact hw
        have hG : G = match (bif l.any (eB (nmK j)) then Tk.no else .set j x (nmK j)) with
          | .no => (none, k + 1)
          | .same => bif decide (i < (s.size : Int)) then pG m r l (byA ((L8 s).drop (i + 1).toNat)) (k + 1 + 1) else (some r, 0)
          | .set j v x => bif decide (i < (s.size : Int)) then pG m (setC j v r) (l ++ [x]) (byA ((L8 s).drop (i + 1).toNat)) (k + 1 + 1) else (some (setC j v r), 0) := hG
        rw [hany] at hG
        have way := ou_n (pO s c z) (aO f k i r l)
        have e3 : (aO f k i r l).v.set (0 + (kO (pO s c z) (aO f k i r l)).toNat) (linW (lnO (pO s c z) (aO f k i r l))) = cfL (setC j x r) := by
          rw [ekk, (kO_some e).2, show 0 + Int.toNat ((j : Nat) : Int) = j by omega]
          exact cfL_set r x j hj
        have e4 : (aO f k i r l).w.set (0 + (kO (pO s c z) (aO f k i r l)).toNat) true = wasL (l ++ [nmK j]) := by
          rw [ekk, show 0 + Int.toNat ((j : Nat) : Int) = j by omega]
          exact wasL_set l hj
        rw [ew, ek, e3, e4] at way
        have iv1 := idR_is (g := cfL r) (k := 20) (i := kO (pO s c z) (aO f k i r l)) (cfL_len r).symm (by omega) (by omega)
        have iv2 := idR_is (g := wasL l) (k := 20) (i := kO (pO s c z) (aO f k i r l)) (wasL_len l).symm (by omega) (by omega)
        exact ⟨i + 1, k + 1, setC j x r, l ++ [nmK j], T.path_eval way (allSay_append (h3O_say z1 hl hn hw) ⟨iv1.1, iv1.2, iv2.1, iv2.2, trivial⟩), fin _ _ hG⟩
theorem stepOu (p : POu) (a : AOu) (h : okOu p a) (hg : goOu p a = true) : ∃ b, stepC okOu rdOu FOu muOu p a b := by
  obtain ⟨s, c, z, r, f, k, i, l, G, rfl, rfl, hx⟩ := h
  obtain ⟨f', k', r', l', h1, h2⟩ := ou_on (c := c) (z := z) hx hg
  refine ⟨_, h1, ⟨s, c, z, r', f', k', i + 1, l', G, rfl, rfl, h2⟩, ?_⟩
  unfold goOu at hg
  rw [Bool.and_eq_true, decide_eq_true_eq] at hg
  have hi : i ≤ (s.size : Int) := hg.1
  show ((s.size : Int) + 1 - (i + 1)).toNat < ((s.size : Int) + 1 - i).toNat
  omega
def outOu (p : POu) (a : AOu) : T (Ex × St) := .ite none (decide (a.i ≤ (p.s.size : Int))) (.ret (.ret, stFO p a)) (.ret (.exit 0, stXO p a))
theorem go_no {p : POu} {a : AOu} (hg : goOu p a = false) (hi : a.i ≤ (p.s.size : Int)) : skO p a = false ∧ ntO p a = true ∧ wsO p a = true := by
  unfold goOu at hg
  rw [decide_eq_true hi, Bool.true_and, Bool.or_eq_false_iff, Bool.or_eq_false_iff, Bool.not_eq_false', Bool.not_eq_false'] at hg
  exact hg
theorem exOu (p : POu) (a : AOu) (h : okOu p a) (hg : goOu p a = false) (x : Ex × St) (hr : (outOu p a).eval = some x) : x.1 ≠ .normal ∧ (rdOu p a).eval = some x := by
  obtain ⟨s, c, z, r, f, k, i, l, G, rfl, rfl, hx⟩ := h
  unfold outOu at hr
  by_cases hi : i ≤ (s.size : Int)
  · rw [decide_eq_true (show (aO f k i r l).i ≤ ((pO s c z).s.size : Int) from hi)] at hr
    obtain rfl := Option.some.inj hr
    obtain ⟨h1, h2, h3⟩ := go_no hg hi
    have hl := line_at (c := c) (z := z) (a := aO f k i r l) hx.z hx.f0 hx.f1 hi h1
    exact ⟨by simp, T.path_eval (ou_f _ _) (h3O_say hx.z hl h2 h3)⟩
  · rw [decide_eq_false (show ¬ (aO f k i r l).i ≤ ((pO s c z).s.size : Int) from hi)] at hr
    obtain rfl := Option.some.inj hr
    exact ⟨by simp, T.path_eval (ou_x _ _) ⟨decide_eq_false hi, trivial⟩⟩
noncomputable def famOu : LSpec := famE [1,2,4,7,8,9,10,11] SOu SOux 4000 4000 108 decOu okOu goOu rdOu FOu muOu outOu
theorem lpOu_ok : LoopOk G1 lpOu famOu := famE_ok (vs := vsOu) (bs := bsOu) G1_ok mixed ou_in.ok decOu_ok (fun _ _ => rfl) (fun _ _ => rfl) stepOu exOu
noncomputable def rpaX : Eng.Spec := execS G1 (byReg [(rgOu, famOu)]) 12
theorem rpaX_ok : SpecOk Tryd.prog 12 rpaX := execS_loops G1_ok mixed Tryd.func12 (by kernel_rfl) (by kernel_rfl) (one_lp (c := lpOu) (by kernel_rfl) rgOu_is lpOu_ok)
end Go.Proofs.YtdangjhbkffbnaaDoor.Txt

/- Layer 4: the document's Parse: contract. -/
namespace Go.Proofs.YtdangjhbkffbnaaDoor.Txt
open Go.Eng Go.RowKit
set_option linter.unusedVariables false
set_option linter.unusedSimpArgs false
set_option maxRecDepth 100000
noncomputable def eOu (c : Cf) (s : ByteArray) : AOu := endW (nxtC okOu goOu rdOu FOu muOu (pO s c zz)) (aO 0 0 0 c [])
noncomputable def vE (c : Cf) (s : ByteArray) : List Int := List.take 20 (List.drop 0 (eOu c s).v)
def mkO (c : Cf) : Bool := decide ((0 : Int) ≤ (((cfL c).length : Nat) : Int)) && (decide ((((cfL c).length : Nat) : Int) ≤ (((cfL c).length : Nat) : Int)) && decide ((((cfL c).length : Nat) : Int) ≤ 1000000))
theorem rpa_f (c : Cf) (s : ByteArray) : T.path [true, true, true] (T.anon (rpaX [Conf.confV c, .s (.str s)])) = some ([(mkO c, true), (invC okOu (pO s c zz) (aO 0 0 0 c []), true), (decide ((eOu c s).i ≤ (s.size : Int)), true)], .tup [Conf.confV c, iv 4, iv (IntKind.wrap .i64 ((eOu c s).k + 1))]) := by kernel_rfl
theorem rpa_b (c : Cf) (s : ByteArray) : T.path [true, true, false, true, true, true] (T.anon (rpaX [Conf.confV c, .s (.str s)])) = some ([(mkO c, true), (invC okOu (pO s c zz) (aO 0 0 0 c []), true), (decide ((eOu c s).i ≤ (s.size : Int)), false), (decide (0 + 20 ≤ (eOu c s).v.length), true), (decide ((vE c s).length = 20), true), (!Conf.mayB (cfO (vE c s)), true)], .tup [Conf.confV c, iv 5, iv 0]) := by kernel_rfl
theorem rpa_g (c : Cf) (s : ByteArray) : T.path [true, true, false, true, true, false] (T.anon (rpaX [Conf.confV c, .s (.str s)])) = some ([(mkO c, true), (invC okOu (pO s c zz) (aO 0 0 0 c []), true), (decide ((eOu c s).i ≤ (s.size : Int)), false), (decide (0 + 20 ≤ (eOu c s).v.length), true), (decide ((vE c s).length = 20), true), (!Conf.mayB (cfO (vE c s)), false)], .tup [Conf.confV (cfO (vE c s)), iv 0, iv 0]) := by kernel_rfl
theorem decOu_self (p : POu) (a : AOu) : decOu (vsOu p a) (bsOu p a) = some (p, a) := by cases p; cases a; rfl
theorem FOu_inj {p : POu} {a b : AOu} (h : FOu p a = FOu p b) : a = b := by
  have e1 : vsOu p a = vsOu p b := congrArg (fun s : St => s.tmps.map Prod.snd) h
  have e2 : bsOu p a = bsOu p b := congrArg (fun s : St => s.heap.map Prod.snd) h
  have := decOu_self p a
  rw [e1, e2, decOu_self p b] at this
  cases this; rfl
/-- what the loop comes to -/
theorem rpa_end (c : Cf) {s : ByteArray} (hs : s.size ≤ 90000) : invC okOu (pO s c zz) (aO 0 0 0 c []) = true ∧
    ((eOu c s).i ≤ (s.size : Int) → pAll c s = (none, IntKind.wrap .i64 ((eOu c s).k + 1))) ∧
    (¬ (eOu c s).i ≤ (s.size : Int) → ∃ r, pAll c s = (some r, 0) ∧ (eOu c s).v = cfL r) := by
  have hx : okOx (pAll c s) s 0 0 0 c [] := ⟨hs, Int.le_refl _, Int.le_refl _, by omega, Int.le_refl _, Int.le_refl _, fun _ => ⟨fun j j1 j2 => by omega, s.size + 1, by omega, by
    show pAll c s = pG (s.size + 1) c [] (byA ((L8 s).drop (Int.toNat 0))) (0 + 1)
    have : (L8 s).drop (Int.toNat 0) = L8 s := rfl
    rw [this, byA_L8]; rfl⟩, fun e => by omega⟩
  have h0 : okOu (pO s c zz) (aO 0 0 0 c []) := ⟨s, c, zz, c, 0, 0, 0, [], pAll c s, rfl, rfl, hx⟩
  obtain ⟨k1, k2, k3⟩ := endW_says (nxt := nxtC okOu goOu rdOu FOu muOu (pO s c zz)) (I := fun a => okOu (pO s c zz) a) (μ := muOu (pO s c zz)) (fun a b _ e => (nxtC_some e).2.2) h0
  have g : goOu (pO s c zz) (eOu c s) = false := nxtC_none stepOu k1 k2
  have q : ∃ f k i r l, eOu c s = aO f k i r l ∧ okOx (pAll c s) s f k i r l := by
    refine k3 (fun a => ∃ f k i r l, a = aO f k i r l ∧ okOx (pAll c s) s f k i r l) ⟨0, 0, 0, c, [], rfl, hx⟩ ?_
    rintro a b - ⟨f, k, i, r, l, rfl, hx⟩ e
    obtain ⟨eg, es⟩ := nxtC_some e
    obtain ⟨f', k', r', l', h1, h2⟩ := ou_on (c := c) (z := zz) hx eg
    have : b = aO f' k' (i + 1) r' l' := FOu_inj (congrArg Prod.snd (Option.some.inj (es.1.symm.trans h1)))
    exact ⟨f', k', i + 1, r', l', this, h2⟩
  obtain ⟨f, k, i, r, l, he, hx⟩ := q
  rw [he] at g
  rw [he]
  refine ⟨invC_is h0, fun hi => ?_, fun hi => ⟨r, hx.e (by have := hx.i1; have hi : ¬ i ≤ (s.size : Int) := hi; omega), rfl⟩⟩
  have hi : i ≤ (s.size : Int) := hi
  obtain ⟨h1, h2, h3⟩ := go_no g hi
  have hl := line_at (c := c) (z := zz) (a := aO f k i r l) hx.z hx.f0 hx.f1 hi h1
  obtain ⟨m, -, hG⟩ := line_pG hx hi hl h1
  have hnote : noteB (lnO (pO s c zz) (aO f k i r l)) = false := by
    have := hl.n
    rw [h2] at this
    cases q : noteB (lnO (pO s c zz) (aO f k i r l)) with
    | true => rw [q] at this; cases this
    | false => rfl
  have hk : IntKind.wrap .i64 (k + 1) = k + 1 := by
    have a1 := hx.k0
    have a2 := hx.k1
    have a3 := hx.z
    exact wrap64 (by omega) (by omega)
  have hno : takF l (lnO (pO s c zz) (aO f k i r l)) = .no := by
    rw [takF_lin l hnote]
    rcases ws_is (s := s) (c := c) (z := zz) (r := r) (f := f) (k := k) (i := i) (l := l) with ⟨e, -⟩ | ⟨j, x, e, hj, -, ew⟩
    · rw [e]
    · rw [e]
      show (bif l.any (eB (nmK j)) then Tk.no else .set j x (nmK j)) = .no
      rw [← ew, h3]; rfl
  rw [hno] at hG
  show pAll c s = (none, IntKind.wrap .i64 (k + 1))
  rw [hk]; exact hG
theorem rpa_run (c : Cf) {s : ByteArray} (hs : s.size ≤ 90000) : (rpaX [Conf.confV c, .s (.str s)]).eval = some (parV c s) := by
  rw [← T.eval_anon (t := rpaX _)]
  obtain ⟨h1, h2, h3⟩ := rpa_end c hs
  have hm : mkO c = true := by kernel_rfl
  by_cases hi : (eOu c s).i ≤ (s.size : Int)
  · have wf := rpa_f c s
    have c0 : decide ((eOu c s).i ≤ (s.size : Int)) = true := decide_eq_true hi
    have e := h2 hi
    generalize decide ((eOu c s).i ≤ (s.size : Int)) = q0 at wf c0
    generalize mkO c = q3 at wf hm
    rw [T.path_eval wf ⟨hm, h1, c0, trivial⟩]
    unfold parV parF
    rw [e]
  · obtain ⟨r, e, ev⟩ := h3 hi
    have e1 : vE c s = cfL r := by unfold vE; rw [ev]; rfl
    have e2 : cfO (vE c s) = r := by rw [e1, cfO_cfL]
    have c1 : decide (0 + 20 ≤ (eOu c s).v.length) = true := by rw [ev]; kernel_rfl
    have c2 : decide ((vE c s).length = 20) = true := by rw [e1]; kernel_rfl
    unfold parV parF
    rw [e]
    show _ = some (V.tup [Conf.confV (bif Conf.mayB r then (r, 0, 0) else (c, 5, 0) : Conf.Cf × Int × Int).1, iv (bif Conf.mayB r then (r, 0, 0) else (c, 5, 0) : Conf.Cf × Int × Int).2.1, iv (bif Conf.mayB r then (r, 0, 0) else (c, 5, 0) : Conf.Cf × Int × Int).2.2])
    have wg := rpa_g c s
    have wb := rpa_b c s
    rw [e2] at wg wb
    have c0 : decide ((eOu c s).i ≤ (s.size : Int)) = false := decide_eq_false hi
    generalize decide (0 + 20 ≤ (eOu c s).v.length) = q1 at wg wb c1
    generalize decide ((vE c s).length = 20) = q2 at wg wb c2
    generalize decide ((eOu c s).i ≤ (s.size : Int)) = q0 at wg wb c0
    generalize mkO c = q3 at wg wb hm
    cases hb : Conf.mayB r with
    | true => rw [T.path_eval wg ⟨hm, h1, c0, c1, c2, by rw [hb]; rfl, trivial⟩]; rfl
    | false => rw [T.path_eval wb ⟨hm, h1, c0, c1, c2, by rw [hb]; rfl, trivial⟩]; rfl
theorem rpaS_ok : SpecOk Tryd.prog 12 parS := rpaX_ok.of_den fun args v hfl h => by
  clear hfl
  unfold parS at h
  split at h
  · rename_i x s
    obtain ⟨c, rfl, h2⟩ := Conf.asConf_some h
    obtain ⟨hb, h2⟩ := ite_T' h2
    obtain rfl := Option.some.inj h2
    exact ⟨_, rpa_run c (of_decide_eq_true hb), ⟨rfl, rfl⟩, rfl⟩
  · cases h
end Go.Proofs.YtdangjhbkffbnaaDoor.Txt

/- Layer 4: TextAsks: its loop. -/
namespace Go.Proofs.YtdangjhbkffbnaaDoor.Txt
open Go.Eng Go.RowKit
set_option linter.unusedVariables false
set_option linter.unusedSimpArgs false
set_option maxRecDepth 100000
noncomputable def AX : Cfg := ⟨Tryd.prog, lookG [(8, .val yesT), (9, .val numS), (10, .val rnuS), (11, .val parS), (12, .val parS), (13, .val priS), (14, .val rpiS), (15, .val shoS), (16, .val rshS)], [23], 0⟩
theorem AX_ok : AX.Ok := Cfg.ok ⟨tldT_ok, numS_ok, rnuS_ok, parS_ok, rpaS_ok, priS_ok, rpiS_ok, shoS_ok, rshS_ok, trivial⟩ ⟨⟨by kernel_rfl, by kernel_rfl⟩, trivial⟩
noncomputable def lpAs : Code := loopAt Tryd.prog 3 0
structure PAs where (s : ByteArray) (n : Int) (k : Nat) (l : List ByteArray) (c0 : Int) (c1 : Int) (c2 : Int) (c3 : Int) (c4 : Int) (c5 : Int) (c6 : Int) (c7 : Int) (c8 : Int) (c9 : Int) (c10 : Int) (c11 : Int) (c12 : Int) (c13 : Int) (c14 : Int) (c15 : Int) (c16 : Int) (c17 : Int) (c18 : Int) (c19 : Int)
structure AAs where (t : ByteArray) (i : Int)
abbrev SAs : List (Nat × Src) := [(0, .same), (1, .same)]
def vsAs (p : PAs) (a : AAs) : List V := [.s (.str p.s), iv p.n, .sub 0 1 0 p.k, .ptr 1 0, .s (.str a.t), iv a.i]
def bsAs (p : PAs) (a : AAs) : List Blk := [.lst false 9 [.str] p.l, .cells 23 [iv p.c0, iv p.c1, iv p.c2, iv p.c3, iv p.c4, iv p.c5, iv p.c6, iv p.c7, iv p.c8, iv p.c9, iv p.c10, iv p.c11, iv p.c12, iv p.c13, iv p.c14, iv p.c15, iv p.c16, iv p.c17, iv p.c18, iv p.c19]]
noncomputable def FAs (p : PAs) (a : AAs) : St := mkSt [0,1,3,6,9,10] (keysR SAs) 4000 131 (vsAs p a) (bsAs p a)
abbrev SAsx : List (Nat × Src) := [(0, .same), (1, .same)]
noncomputable def rdAs (p : PAs) (a : AAs) : T (Ex × St) := T.anon (roundX AX noLoops lpAs [0,1,3,6,9,10] SAs [0,1,6,8,9] SAsx 4000 4000 (mkSt [0,1,3,6,9,10] (keysR SAs) 4000 131 (vsAs p a) (bsAs p a)))
def decAs_v0 : V → Option ((ByteArray))
  | .s (.str s) => some (s)
  | _ => none
theorem decAs_v0_ok (b : V) (x0 : (ByteArray)) (h : decAs_v0 b = some x0) : b = .s (.str (x0)) := by
  unfold decAs_v0 at h
  split at h
  · cases h
    rfl
  · cases h
def decAs_v1 : V → Option ((Int))
  | .s (.int .i64 n) => some (n)
  | _ => none
theorem decAs_v1_ok (b : V) (x1 : (Int)) (h : decAs_v1 b = some x1) : b = iv (x1) := by
  unfold decAs_v1 at h
  split at h
  · cases h
    rfl
  · cases h
def decAs_v2 : V → Option ((Nat))
  | .sub 0 1 0 k => some (k)
  | _ => none
theorem decAs_v2_ok (b : V) (x2 : (Nat)) (h : decAs_v2 b = some x2) : b = .sub 0 1 0 (x2) := by
  unfold decAs_v2 at h
  split at h
  · cases h
    rfl
  · cases h
def decAs_v3 : V → Option (Unit)
  | .ptr 1 0 => some ()
  | _ => none
theorem decAs_v3_ok (b : V) (x3 : Unit) (h : decAs_v3 b = some x3) : b = .ptr 1 0 := by
  unfold decAs_v3 at h
  split at h
  · cases h
    rfl
  · cases h
def decAs_v4 : V → Option ((ByteArray))
  | .s (.str t) => some (t)
  | _ => none
theorem decAs_v4_ok (b : V) (x4 : (ByteArray)) (h : decAs_v4 b = some x4) : b = .s (.str (x4)) := by
  unfold decAs_v4 at h
  split at h
  · cases h
    rfl
  · cases h
def decAs_v5 : V → Option ((Int))
  | .s (.int .i64 i) => some (i)
  | _ => none
theorem decAs_v5_ok (b : V) (x5 : (Int)) (h : decAs_v5 b = some x5) : b = iv (x5) := by
  unfold decAs_v5 at h
  split at h
  · cases h
    rfl
  · cases h
def decAs_b0 : Blk → Option ((List ByteArray))
  | .lst false tt0 [.str] l => if tt0 = 9 then some (l) else none
  | _ => none
theorem decAs_b0_ok (b : Blk) (y0 : (List ByteArray)) (h : decAs_b0 b = some y0) : b = .lst false 9 [.str] (y0) := by
  unfold decAs_b0 at h
  split at h
  · obtain ⟨e0, h⟩ := ite_some0 h
    subst e0
    cases h
    rfl
  · cases h
def decAs_b1 : Blk → Option ((Int) × (Int) × (Int) × (Int) × (Int) × (Int) × (Int) × (Int) × (Int) × (Int) × (Int) × (Int) × (Int) × (Int) × (Int) × (Int) × (Int) × (Int) × (Int) × (Int))
  | .cells tt0 [.s (.int .i64 c0), .s (.int .i64 c1), .s (.int .i64 c2), .s (.int .i64 c3), .s (.int .i64 c4), .s (.int .i64 c5), .s (.int .i64 c6), .s (.int .i64 c7), .s (.int .i64 c8), .s (.int .i64 c9), .s (.int .i64 c10), .s (.int .i64 c11), .s (.int .i64 c12), .s (.int .i64 c13), .s (.int .i64 c14), .s (.int .i64 c15), .s (.int .i64 c16), .s (.int .i64 c17), .s (.int .i64 c18), .s (.int .i64 c19)] => if tt0 = 23 then some (c0, c1, c2, c3, c4, c5, c6, c7, c8, c9, c10, c11, c12, c13, c14, c15, c16, c17, c18, c19) else none
  | _ => none
theorem decAs_b1_ok (b : Blk) (y1 : (Int) × (Int) × (Int) × (Int) × (Int) × (Int) × (Int) × (Int) × (Int) × (Int) × (Int) × (Int) × (Int) × (Int) × (Int) × (Int) × (Int) × (Int) × (Int) × (Int)) (h : decAs_b1 b = some y1) : b = .cells 23 [iv (y1.1), iv (y1.2.1), iv (y1.2.2.1), iv (y1.2.2.2.1), iv (y1.2.2.2.2.1), iv (y1.2.2.2.2.2.1), iv (y1.2.2.2.2.2.2.1), iv (y1.2.2.2.2.2.2.2.1), iv (y1.2.2.2.2.2.2.2.2.1), iv (y1.2.2.2.2.2.2.2.2.2.1), iv (y1.2.2.2.2.2.2.2.2.2.2.1), iv (y1.2.2.2.2.2.2.2.2.2.2.2.1), iv (y1.2.2.2.2.2.2.2.2.2.2.2.2.1), iv (y1.2.2.2.2.2.2.2.2.2.2.2.2.2.1), iv (y1.2.2.2.2.2.2.2.2.2.2.2.2.2.2.1), iv (y1.2.2.2.2.2.2.2.2.2.2.2.2.2.2.2.1), iv (y1.2.2.2.2.2.2.2.2.2.2.2.2.2.2.2.2.1), iv (y1.2.2.2.2.2.2.2.2.2.2.2.2.2.2.2.2.2.1), iv (y1.2.2.2.2.2.2.2.2.2.2.2.2.2.2.2.2.2.2.1), iv (y1.2.2.2.2.2.2.2.2.2.2.2.2.2.2.2.2.2.2.2)] := by
  unfold decAs_b1 at h
  split at h
  · obtain ⟨e0, h⟩ := ite_some0 h
    subst e0
    cases h
    rfl
  · cases h
def decAs : List V → List Blk → Option (PAs × AAs)
  | [v0, v1, v2, v3, v4, v5], [b0, b1] => (decAs_v0 v0).bind fun x0 => (decAs_v1 v1).bind fun x1 => (decAs_v2 v2).bind fun x2 => (decAs_v3 v3).bind fun x3 => (decAs_v4 v4).bind fun x4 => (decAs_v5 v5).bind fun x5 => (decAs_b0 b0).bind fun y0 => (decAs_b1 b1).bind fun y1 => some (⟨(x0), (x1), (x2), (y0), (y1.1), (y1.2.1), (y1.2.2.1), (y1.2.2.2.1), (y1.2.2.2.2.1), (y1.2.2.2.2.2.1), (y1.2.2.2.2.2.2.1), (y1.2.2.2.2.2.2.2.1), (y1.2.2.2.2.2.2.2.2.1), (y1.2.2.2.2.2.2.2.2.2.1), (y1.2.2.2.2.2.2.2.2.2.2.1), (y1.2.2.2.2.2.2.2.2.2.2.2.1), (y1.2.2.2.2.2.2.2.2.2.2.2.2.1), (y1.2.2.2.2.2.2.2.2.2.2.2.2.2.1), (y1.2.2.2.2.2.2.2.2.2.2.2.2.2.2.1), (y1.2.2.2.2.2.2.2.2.2.2.2.2.2.2.2.1), (y1.2.2.2.2.2.2.2.2.2.2.2.2.2.2.2.2.1), (y1.2.2.2.2.2.2.2.2.2.2.2.2.2.2.2.2.2.1), (y1.2.2.2.2.2.2.2.2.2.2.2.2.2.2.2.2.2.2.1), (y1.2.2.2.2.2.2.2.2.2.2.2.2.2.2.2.2.2.2.2)⟩, ⟨(x4), (x5)⟩)
  | _, _ => none
theorem decAs_ok (l : List V) (b : List Blk) (d : PAs × AAs) (h : decAs l b = some d) : l = vsAs d.1 d.2 ∧ b = bsAs d.1 d.2 := by
  unfold decAs at h
  split at h
  · obtain ⟨x0, hx0, h⟩ := Option.bind_eq_some_iff.1 h
    obtain ⟨x1, hx1, h⟩ := Option.bind_eq_some_iff.1 h
    obtain ⟨x2, hx2, h⟩ := Option.bind_eq_some_iff.1 h
    obtain ⟨x3, hx3, h⟩ := Option.bind_eq_some_iff.1 h
    obtain ⟨x4, hx4, h⟩ := Option.bind_eq_some_iff.1 h
    obtain ⟨x5, hx5, h⟩ := Option.bind_eq_some_iff.1 h
    obtain ⟨y0, hy0, h⟩ := Option.bind_eq_some_iff.1 h
    obtain ⟨y1, hy1, h⟩ := Option.bind_eq_some_iff.1 h
    have ex0 := decAs_v0_ok _ _ hx0
    have ex1 := decAs_v1_ok _ _ hx1
    have ex2 := decAs_v2_ok _ _ hx2
    have ex3 := decAs_v3_ok _ _ hx3
    have ex4 := decAs_v4_ok _ _ hx4
    have ex5 := decAs_v5_ok _ _ hx5
    have ey0 := decAs_b0_ok _ _ hy0
    have ey1 := decAs_b1_ok _ _ hy1
    cases h
    subst ex0 ex1 ex2 ex3 ex4 ex5 ey0 ey1
    exact ⟨rfl, rfl⟩
  · cases h
noncomputable def rgAs : Nat := (firstReg lpAs).getD 0
theorem rgAs_is : firstReg lpAs = some rgAs := by kernel_rfl
end Go.Proofs.YtdangjhbkffbnaaDoor.Txt

/- Layer 4: TextAsks: its loop's rounds. -/
namespace Go.Proofs.YtdangjhbkffbnaaDoor.Txt
open Go.Eng Go.RowKit
set_option linter.unusedVariables false
set_option linter.unusedSimpArgs false
set_option maxRecDepth 100000
def lnA (p : PAs) (a : AAs) : ByteArray := p.l.getD (0 + Int.toNat a.i) (Row.dflt [.str])
def stEA (p : PAs) (a : AAs) (v : V) : St := mkSt [0, 1, 6, 8, 9] (keysR SAs) 4000 131 [.s (.str p.s), iv p.n, .ptr 1 0, v, .s (.str a.t)] (bsAs p a)
def hAs (p : PAs) (a : AAs) (b : Bool) : List (Bool × Bool) := [(decide (a.i < (p.k : Int)), true), (idR p.l p.k a.i, true), (ldR p.l a.i, true), (decide (40 < ((lnA p a).size : Int)), b)]
theorem as_r (p : PAs) (a : AAs) : T.path [true, true, true, true] (rdAs p a) = some (hAs p a true, (.ret, stEA p a (.s (.bool true)))) := by kernel_rfl
theorem as_x (p : PAs) (a : AAs) : T.path [false] (rdAs p a) = some ([(decide (a.i < (p.k : Int)), false)], (.exit 0, stEA p a .junk)) := by kernel_rfl
theorem as_n (p : PAs) (a : AAs) : T.path [true, true, true, false, true, true, false, false] (rdAs p a) = some (hAs p a false ++ [(idR p.l p.k a.i, true), (ldR p.l a.i, true), (over (a.t.size + (lnA p a).size), false), (over ((a.t ++ lnA p a).size + nlB.size), false)], (.normal, FAs p ⟨a.t ++ lnA p a ++ nlB, IntKind.wrap .i64 (a.i + 1)⟩)) := by kernel_rfl
structure okAs (p : PAs) (a : AAs) : Prop where
  k : p.k = p.l.length
  z : p.l.length ≤ 12
  i0 : 0 ≤ a.i
  i1 : a.i ≤ (p.l.length : Int)
  t : (a.t.size : Int) ≤ 41 * a.i
def goAs (p : PAs) (a : AAs) : Bool := decide (a.i < (p.k : Int)) && !decide (40 < ((lnA p a).size : Int))
def muAs (p : PAs) (a : AAs) : Nat := ((p.k : Int) - a.i).toNat
theorem hAs_say {p : PAs} {a : AAs} (h : okAs p a) (hi : a.i < (p.k : Int)) {b : Bool} (hb : decide (40 < ((lnA p a).size : Int)) = b) : allSay (hAs p a b) := by
  obtain ⟨k, z, i0, i1, t⟩ := h
  obtain ⟨y1, y2⟩ := idR_is (g := p.l) (k := p.k) (i := a.i) k i0 (by omega)
  exact ⟨decide_eq_true hi, y1, y2, hb, trivial⟩
theorem stepAs (p : PAs) (a : AAs) (h : okAs p a) (hg : goAs p a = true) : ∃ b, stepC okAs rdAs FAs muAs p a b := by
  unfold goAs at hg
  rw [Bool.and_eq_true, decide_eq_true_eq, Bool.not_eq_true'] at hg
  obtain ⟨hi, hq⟩ := hg
  have hs := hAs_say h hi hq
  obtain ⟨k, z, i0, i1, t⟩ := h
  obtain ⟨y1, y2⟩ := idR_is (g := p.l) (k := p.k) (i := a.i) k i0 (by omega)
  have hq : ¬ 40 < ((lnA p a).size : Int) := of_decide_eq_false hq
  have w : IntKind.wrap .i64 (a.i + 1) = a.i + 1 := wrap64 (by omega) (by omega)
  have o1 : (a.t ++ lnA p a).size = a.t.size + (lnA p a).size := ByteArray.size_append
  have o2 : (a.t ++ lnA p a ++ nlB).size = a.t.size + (lnA p a).size + 1 := by rw [ByteArray.size_append, o1, nl_size]
  refine ⟨⟨a.t ++ lnA p a ++ nlB, IntKind.wrap .i64 (a.i + 1)⟩, T.path_eval (as_n p a) (allSay_append hs ⟨y1, y2, over_no (by omega), by rw [o1, nl_size]; exact over_no (by omega), trivial⟩), ?_, ?_⟩
  · refine ⟨k, z, ?_, ?_, ?_⟩
    · show 0 ≤ IntKind.wrap .i64 (a.i + 1)
      omega
    · show IntKind.wrap .i64 (a.i + 1) ≤ _
      omega
    · show ((a.t ++ lnA p a ++ nlB).size : Int) ≤ 41 * IntKind.wrap .i64 (a.i + 1)
      rw [o2, w]; omega
  · show ((p.k : Int) - IntKind.wrap .i64 (a.i + 1)).toNat < ((p.k : Int) - a.i).toNat
    omega
def outAs (p : PAs) (a : AAs) : T (Ex × St) := .ite none (decide (a.i < (p.k : Int))) (.ret (.ret, stEA p a (.s (.bool true)))) (.ret (.exit 0, stEA p a .junk))
theorem exAs (p : PAs) (a : AAs) (h : okAs p a) (hg : goAs p a = false) (x : Ex × St) (hr : (outAs p a).eval = some x) : x.1 ≠ .normal ∧ (rdAs p a).eval = some x := by
  unfold outAs at hr
  by_cases hi : a.i < (p.k : Int)
  · rw [decide_eq_true hi] at hr
    obtain rfl := Option.some.inj hr
    unfold goAs at hg
    rw [decide_eq_true hi, Bool.true_and, Bool.not_eq_false'] at hg
    exact ⟨by simp, T.path_eval (as_r p a) (hAs_say h hi hg)⟩
  · rw [decide_eq_false hi] at hr
    obtain rfl := Option.some.inj hr
    exact ⟨by simp, T.path_eval (as_x p a) ⟨decide_eq_false hi, trivial⟩⟩
noncomputable def famAs : LSpec := famE [0,1,3,6,9,10] SAs SAsx 4000 4000 131 decAs okAs goAs rdAs FAs muAs outAs
theorem lpAs_ok : LoopOk AX lpAs famAs := famE_ok (vs := vsAs) (bs := bsAs) AX_ok mixed (noLoops_ok _) decAs_ok (fun _ _ => rfl) (fun _ _ => rfl) stepAs exAs
noncomputable def asX : Eng.Spec := execS AX (byReg [(rgAs, famAs)]) 3
theorem asX_ok : SpecOk Tryd.prog 3 asX := execS_loops AX_ok mixed Tryd.func3 (by kernel_rfl) (by kernel_rfl) (one_lp (c := lpAs) (by kernel_rfl) rgAs_is lpAs_ok)
end Go.Proofs.YtdangjhbkffbnaaDoor.Txt

/- Layer 4: TextAsks: the law run. -/
namespace Go.Proofs.YtdangjhbkffbnaaDoor.Txt
open Go.Eng Go.RowKit
set_option linter.unusedVariables false
set_option linter.unusedSimpArgs false
set_option maxRecDepth 100000
def pA (s : ByteArray) (n : Int) (c : Cf) (l : List ByteArray) : PAs := ⟨s, n, l.length, l, c.target, c.util, c.stable, c.panic, c.grain, c.threshold, c.up, c.down, c.min, c.max, c.initial, c.grace, c.delay, c.burst, c.limit, c.queue, c.timeout, c.ready, c.subset, c.sample⟩
def a0 : AAs := ⟨⟨#[]⟩, 0⟩
noncomputable def eA (s : ByteArray) (n : Int) (c : Cf) (l : List ByteArray) : AAs := endW (nxtC okAs goAs rdAs FAs muAs (pA s n c l)) a0
def longA (s : ByteArray) (l : List ByteArray) : Bool := bif decide (30 < (s.size : Int)) then true else decide (12 < (l.length : Int))
def eqA (x y : Conf.Cf) : Bool := (x.target == y.target && (x.util == y.util && (x.stable == y.stable && (x.panic == y.panic && (x.grain == y.grain && (x.threshold == y.threshold && (x.up == y.up && (x.down == y.down && (x.min == y.min && (x.max == y.max && (x.initial == y.initial && (x.grace == y.grace && (x.delay == y.delay && (x.burst == y.burst && (x.limit == y.limit && (x.queue == y.queue && (x.timeout == y.timeout && (x.ready == y.ready && (x.subset == y.subset && (x.sample == y.sample && true))))))))))))))))))))
theorem eqA_self (x : Conf.Cf) : eqA x x = true := by unfold eqA; simp
def numE (s : ByteArray) : Bool := bif (numF (L8 s)).getD 0 == (numF (L8 s)).getD 0 then (numF (L8 s)).isSome == (numF (L8 s)).isSome else false
def q9A (s : ByteArray) (n : Int) : Bool := bif numE s == true && true then in64 n else true
def finA (s : ByteArray) (n : Int) (z : Cf × Int × Int) (t : ByteArray) (h : Int) : Bool := bif bif bif bif bif bif numE s then (showB n).toList == (showB n).toList else false then eqA z.1 z.1 else false then z.2.1 == z.2.1 else false then z.2.2 == z.2.2 else false then t.toList == t.toList else false then h == h else false
theorem finA_is (s : ByteArray) (n : Int) (z : Cf × Int × Int) (t : ByteArray) (h : Int) : finA s n z t h = true := by
  unfold finA numE
  rw [eqA_self]; simp
noncomputable def goA (s : ByteArray) (n : Int) (c : Cf) (l : List ByteArray) (b : Bool) : List (Bool × Bool) := [(longA s l, false), (invC okAs (pA s n c l) a0, true), (decide ((eA s n c l).i < (l.length : Int)), b)]
noncomputable def mdA (s : ByteArray) (n : Int) (c : Cf) (l : List ByteArray) (b : Bool) : List (Bool × Bool) := [(decide (s.size < 4294967281), true), (decide (s.size ≤ 1000000), true), (decide ((eA s n c l).t.size ≤ 90000), true), (decide ((eA s n c l).t.size ≤ 90000), true), (Conf.mayB c, b), (Conf.mayB c, b), (q9A s n, true), (q9A s n, true)]
noncomputable def runA (s : ByteArray) (n : Int) (c : Cf) (l : List ByteArray) : T V := T.anon (asX [.s (.str s), iv n, Conf.confV c, .orow 9 [.str] l])
theorem asks_l (s : ByteArray) (n : Int) (c : Cf) (l : List ByteArray) : T.path [true] (runA s n c l) = some ([(longA s l, true)], .tt) := by kernel_rfl
theorem asks_r (s : ByteArray) (n : Int) (c : Cf) (l : List ByteArray) : T.path [false, true, true] (runA s n c l) = some (goA s n c l true, .s (.bool true)) := by kernel_rfl
theorem asks_y (s : ByteArray) (n : Int) (c : Cf) (l : List ByteArray) : T.path [false, true, false, true, true, true, true, true, true, true, true] (runA s n c l) = some (goA s n c l false ++ mdA s n c l true, .s (.bool (finA s n (parF c (eA s n c l).t) (prB c) 0))) := by kernel_rfl
theorem asks_n (s : ByteArray) (n : Int) (c : Cf) (l : List ByteArray) : T.path [false, true, false, true, true, true, true, false, false, true, true] (runA s n c l) = some (goA s n c l false ++ mdA s n c l false, .s (.bool (finA s n (parF c (eA s n c l).t) ⟨#[]⟩ 1))) := by kernel_rfl
theorem asks_run (s : ByteArray) (n : Int) (hn : in64 n = true) (c : Cf) (l : List ByteArray) : (asX [.s (.str s), iv n, Conf.confV c, .orow 9 [.str] l]).yes := by
  unfold T.yes
  rw [← T.eval_anon (t := asX _)]
  show (runA s n c l).eval = _ ∨ (runA s n c l).eval = _
  cases hl : longA s l with
  | true => exact .inl (T.path_eval (asks_l s n c l) ⟨hl, trivial⟩)
  | false =>
    refine .inr ?_
    have hb : s.size ≤ 30 ∧ l.length ≤ 12 := by
      unfold longA at hl
      by_cases q : 30 < (s.size : Int)
      · rw [decide_eq_true q] at hl; cases hl
      · rw [decide_eq_false q] at hl
        have : ¬ 12 < (l.length : Int) := of_decide_eq_false hl
        omega
    have h0 : okAs (pA s n c l) a0 := ⟨rfl, hb.2, Int.le_refl _, Int.natCast_nonneg _, Int.le_refl _⟩
    obtain ⟨k1, -, -⟩ := endW_says (nxt := nxtC okAs goAs rdAs FAs muAs (pA s n c l)) (I := fun a => okAs (pA s n c l) a) (μ := muAs (pA s n c l)) (fun a b _ e => (nxtC_some e).2.2) h0
    have k1 : okAs (pA s n c l) (eA s n c l) := k1
    have hz : (eA s n c l).t.size ≤ 90000 := by
      have a1 := k1.t
      have a2 := k1.i1
      have a3 := k1.z
      omega
    have hg : ∀ b, decide ((eA s n c l).i < (l.length : Int)) = b → allSay (goA s n c l b) := fun b hb => ⟨hl, invC_is h0, hb, trivial⟩
    cases hi : decide ((eA s n c l).i < (l.length : Int)) with
    | true => exact T.path_eval (asks_r s n c l) (hg true hi)
    | false =>
      have hg := hg false hi
      have h9 : q9A s n = true := by
        unfold q9A
        rw [hn]; cases numE s == true && true <;> rfl
      have hm : ∀ b, Conf.mayB c = b → allSay (mdA s n c l b) := fun b hb2 => ⟨decide_eq_true (by omega), decide_eq_true (by omega), decide_eq_true hz, decide_eq_true hz, hb2, hb2, h9, h9, trivial⟩
      cases hq : Conf.mayB c with
      | true =>
        have way := asks_y s n c l
        rw [finA_is] at way
        exact T.path_eval way (allSay_append hg (hm true hq))
      | false =>
        have way := asks_n s n c l
        rw [finA_is] at way
        exact T.path_eval way (allSay_append hg (hm false hq))
theorem asks_walk (a0 : ByteArray) (w0 : a0.size ≤ maxLen) (a1 : Int) (w1 : (Lit.int .i64 a1).wf = true) (a2 : Conf.Cf) (w2 : a2.Ok) (a3 : List ByteArray) (z3 : a3.length ≤ maxLen) (w3 : ∀ x ∈ a3, Law.Tx.GoodRow [.str] x) (x3 : Value) (w : World) (hG : Glob w) (hx : holdsP 0 w (.orow 9 [.str] a3) x3) :
    Calls Tryd.prog 3 #[.string a0, .int .i64 a1, .agg #[.int .i64 a2.target, .int .i64 a2.util, .int .i64 a2.stable, .int .i64 a2.panic, .int .i64 a2.grain, .int .i64 a2.threshold, .int .i64 a2.up, .int .i64 a2.down, .int .i64 a2.min, .int .i64 a2.max, .int .i64 a2.initial, .int .i64 a2.grace, .int .i64 a2.delay, .int .i64 a2.burst, .int .i64 a2.limit, .int .i64 a2.queue, .int .i64 a2.timeout, .int .i64 a2.ready, .int .i64 a2.subset, .int .i64 a2.sample], x3] w fun e w' => e = .returned (.bool true) ∧ Below w.heap.size w w' :=
  Law.law_rows (args := [.s (.str a0), iv a1, Conf.confV a2, .orow 9 [.str] a3]) (xs := [.string a0, .int .i64 a1, .agg #[.int .i64 a2.target, .int .i64 a2.util, .int .i64 a2.stable, .int .i64 a2.panic, .int .i64 a2.grain, .int .i64 a2.threshold, .int .i64 a2.up, .int .i64 a2.down, .int .i64 a2.min, .int .i64 a2.max, .int .i64 a2.initial, .int .i64 a2.grace, .int .i64 a2.delay, .int .i64 a2.burst, .int .i64 a2.limit, .int .i64 a2.queue, .int .i64 a2.timeout, .int .i64 a2.ready, .int .i64 a2.subset, .int .i64 a2.sample], x3]) asX_ok rfl (asks_run a0 a1 (by
    have := wf64 w1
    unfold in64
    rw [Bool.and_eq_true, decide_eq_true_eq, decide_eq_true_eq]; omega) a2 a3) w ⟨rfl, rfl, rfl, hx, trivial⟩ hG
end Go.Proofs.YtdangjhbkffbnaaDoor.Txt

