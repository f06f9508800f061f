/- The machine: slices whose cells hold nothing, or the place of a row of their own: made, read, written; what was lent is taken back. No program is named here. -/
import Derived.Test.YtheknddbbgjpkaaEngR
namespace Go.Eng
open Go.RowKit
set_option linter.unusedVariables false
set_option linter.unusedSimpArgs false
section box
variable {C : Cfg} {o : Oper} {ρ : Operand → V} {L : Look} {nx : Nat} {v : V} {u : Heap}
/-- (of a configuration) behind this number its list of types tells which places such slices hold -/
def boxK : Nat := 999997
def afterK : List TypeId → Option TypeId
  | x :: y :: r => if Nat.beq x boxK then some y else afterK (y :: r)
  | _ => none
def boxOf (P : Program) (E : List TypeId) (t : TypeId) : Option (TypeId × TypeId × TypeId × List K) :=
  match P.underlying t with
  | some (.slice e) => match P.underlying e with
    | some (.interface _) => match afterK E with
      | some x => match P.underlying x with
        | some (.pointer tb) => (kindsOf P tb).map fun ks => (e, x, tb, ks)
        | _ => none
      | none => none
    | _ => none
  | _ => none
def isBox {ks : List K} (l : List (Option (Row ks))) (row : Nat) : Bool :=
  match l[row]? with
  | some (some _) => true
  | _ => false
def boxAt (ks : List K) (l : List (Option (Row ks))) (row : Nat) : Row ks :=
  match l[row]? with
  | some (some x) => x
  | _ => Row.dflt ks
theorem isBox_true {ks : List K} {l : List (Option (Row ks))} {row : Nat} (h : isBox l row = true) : l[row]? = some (some (boxAt ks l row)) := by
  unfold isBox at h
  unfold boxAt
  split at h
  · rename_i x e; rw [e]
  · cases h
theorem isBox_false {ks : List K} {l : List (Option (Row ks))} {row : Nat} (hr : row < l.length) (h : isBox l row = false) : l[row]? = some none := by
  unfold isBox at h
  split at h
  · cases h
  · rename_i e
    rw [List.getElem?_eq_getElem hr] at e ⊢
    cases q : l[row] with
    | none => rfl
    | some x => exact absurd (by rw [q]) (e x)
def loadX (P : Program) (L : Look) (nx : Nat) (t : TypeId) (i sz row fld : Nat) : Option R :=
  match L i with
  | some (.bx t0 tp tb ks l g none) => some (if sz = 1 ∧ fld = 0 then opt (isAggB P t) fun b => if b then .fail else
      .ite none (!g.contains row && decide (row < l.length)) (.ite none (isBox l row) (.ret (.iface tp (.ptr nx 0), [(nx, .cells tb ((Row.cells ks (boxAt ks l row)).map V.s)), (i, .bx t0 tp tb ks l g (some (row, nx)))])) (pu .nilIface)) .fail
    else .fail)
  | _ => none
def storeX (P : Program) (L : Look) (t : TypeId) (i sz row fld : Nat) (y : V) : Option R :=
  match L i with
  | some (.bx t0 tp tb ks l g none) => some (if sz = 1 ∧ fld = 0 then opt (sizeB P t) fun n => if n = 1 then
      (match y with
       | .nilIface => .ite none (decide (row < l.length)) (.ret (.raw undef, [(i, .bx t0 tp tb ks (l.set row none) g none)])) .fail
       | .iface tq (.ptr j 0) => if tq = tp then .ite none (decide (row < l.length)) (.ret (.raw undef, [(i, .bx t0 tp tb ks l g (some (row, j)))])) .fail else .fail
       | _ => .fail)
      else .fail
    else .fail)
  | _ => none
def indexAddrX (P : Program) (L : Look) (t : TypeId) (i sz off len : Nat) (ix : V) : Option R :=
  match L i with
  | some (.bx _ _ _ _ l _ _) => some (match P.underlying t with
      | some (.slice e) => opt (numV ix) fun n => if sizeB P e = some sz ∧ sz = 1 then
          .ite none (decide (0 ≤ n) && (decide (n < (len : Int)) && decide (off + n.toNat < l.length))) (pu (.pr i sz (off + n.toNat) 0)) .fail
        else .fail
      | _ => .fail)
  | _ => none
def isNilI : Option Value → Bool
  | some .nilIface => true
  | _ => false
def makeX (C : Cfg) (nx : Nat) (t : TypeId) (l c : V) : Option R :=
  match boxOf C.P C.E t with
  | some (e, tp, tb, ks) => some (opt (C.P.info? e) fun ie => opt (numV l) fun l => opt (numV c) fun c => if isNilI ie.zero = true ∧ ie.size = 1 ∧ ie.bytes ≤ 100000000 then
      .ite none (decide (0 ≤ l) && (decide (l ≤ c) && decide (c ≤ 1000000))) (.ret (.sub nx 1 0 l.toNat, [(nx, .bx e tp tb ks (List.replicate l.toNat none) [] none)])) .fail else .fail)
  | none => none
/-- what an operation does with such slices, if it has to do with them -/
def boxx (C : Cfg) (ρ : Operand → V) (L : Look) (nx : Nat) (o : Oper) : Option R :=
  match o.op with
  | .load t x => match ρ x with
    | .pr i sz row fld => loadX C.P L nx t i sz row fld
    | _ => none
  | .store t x y => match ρ x with
    | .pr i sz row fld => storeX C.P L t i sz row fld (ρ y)
    | _ => none
  | .indexAddr t x ix => match ρ x with
    | .sub i sz off len => indexAddrX C.P L t i sz off len (ρ ix)
    | _ => none
  | .makeSlice t l c => makeX C nx t (ρ l) (ρ c)
  | _ => none
/-! #### each is shown -/
theorem BxDen.len {ν : Env} {σ : Slot} {w : World} {t tp tb : TypeId} {ks : List K} {l : List (Option (Row ks))} {g : List Nat} {lt : Option (Nat × Nat)} {vals : List Value} {box : Nat → Nat} (d : BxDen ν σ w t tp tb ks l g lt vals box) : vals.length = l.length := by
  have := d.own.1; omega
theorem BxDen.cell {ν : Env} {σ : Slot} {w : World} {t tp tb : TypeId} {ks : List K} {l : List (Option (Row ks))} {g : List Nat} {lt : Option (Nat × Nat)} {vals : List Value} {box : Nat → Nat} (d : BxDen ν σ w t tp tb ks l g lt vals box) {row : Nat} (hrow : row < l.length) :
    ∃ a0, σ.core.at_ = some a0 ∧ ∀ z, vals[row]? = some z → w.cell? (a0.add row) = some z := by
  obtain ⟨gb, of, cur, ha, _⟩ := owned_cells d.own (by omega)
  refine ⟨_, ha, fun z hz => ?_⟩
  have h := d.own
  rw [ha] at h
  exact ownsB.cells h row z hz
theorem indexAddrX_ok {t : TypeId} {x ix : Operand} {i sz off len : Nat} {r : R} (hop : o.op = .indexAddr t x ix) (hx : ρ x = .sub i sz off len) (hr : indexAddrX C.P L t i sz off len (ρ ix) = some r) (h : r.eval = some (v, u)) : OpOk C.P o ρ L nx v u := by
  unfold indexAddrX at hr
  split at hr
  · rename_i t0 tp tb ks l g lt hL
    cases hr
    split at h
    · rename_i e hu
      obtain ⟨n, hn, h⟩ := opt_eval h
      split at h
      · rename_i hc
        obtain ⟨hse, rfl⟩ := hc
        obtain ⟨hb, h⟩ := ite_some h
        simp only [Bool.and_eq_true, decide_eq_true_eq] at hb
        obtain ⟨b1, b2, b3⟩ := hb
        obtain ⟨rfl, rfl⟩ := pu_eval h
        refine opOk_pure fun ν w a he hr => ?_
        obtain ⟨vals, box, d⟩ := hr.den i _ hL
        obtain ⟨a0, ea, _⟩ := d.cell b3
        have hle : l.length ≤ (ν i).core.cap := by
          obtain ⟨gb, of, cur, ha, _, _, h1, _⟩ := owned_cells d.own (by omega)
          exact h1
        have hne : (ν i).core.cap ≠ off := by omega
        have e0 : a.eval x = .slice (some (a0.add (off * 1))) len ((ν i).core.cap - off) := by
          rw [he x (by rw [hx]; rfl), hx]; simp only [V.den, ea, Option.map_some, if_neg hne]
        obtain ⟨k, ek⟩ : ∃ k, a.eval ix = .int k n := by
          unfold numV at hn
          split at hn
          · rename_i k m hix; cases hn; exact ⟨k, by rw [he ix (by rw [hix]; rfl), hix]; rfl⟩
          · rename_i k m hix; cases hn; exact ⟨k, by rw [he ix (by rw [hix]; rfl), hix]; rfl⟩
          · cases hn
        unfold execOp
        simp only [hop, e0, ek, Instr.indexAt, asIntOf, Sem.run_bind, Sem.run_pure, Result.andThen_ok, run_underlying hu]
        simp [b1, b2, run_sizeOf hse, V.den, ea, add_add, Nat.add_mul]
      · cases h
    · cases h
  · cases hr
/-- an owned block turned in place, with less of its own -/
theorem updLess {ν : Env} {L : Look} {nx i : Nat} {bi b' : Blk} {σ : Slot} {w w' : World} (hL : ∀ i b, L i = some b → b.ok (nf nx) = true ∧ ¬ fresh nx i) (hr : Rel ν L w) (hi : L i = some bi) (ho : bi.owned = true)
    (hg : Prog w w' (ν i).fp) (hc : σ.core = (ν i).core) (hs : ∀ k, σ.fp k → (ν i).fp k) (hden : ∀ ν' : Env, (∀ j, (ν' j).core = (ν j).core) → b'.den ν' σ w') :
    ∃ ν' : Env, Ext ν ν' w nx [(i, b')] ∧ Rel ν' (over [(i, b')] L) w' ∧ Prog w w' (touched ν nx [(i, b')]) := by
  let ν' : Env := fun j => if j = i then σ else ν j
  have e1 : ν' i = σ := by simp [ν']
  have e2 : ∀ j, j ≠ i → ν' j = ν j := fun j h => by simp [ν', h]
  have hcore : ∀ j, (ν' j).core = (ν j).core := by
    intro j
    by_cases q : j = i
    · subst q; rw [e1, hc]
    · rw [e2 j q]
  have lk : ∀ j, look [(i, b')] j = if j = i then some b' else none := by
    intro j
    simp only [look]
    by_cases e : j = i
    · simp [e]
    · have : (i == j) = false := by simp; exact fun h => e h.symm
      simp [e, this]
  have hnf : ¬ fresh nx i := (hL i _ hi).2
  have hov : ∀ j b, over [(i, b')] L j = some b → (j = i ∧ b = b') ∨ (j ≠ i ∧ L j = some b) := by
    intro j b hb
    unfold over at hb
    rw [lk] at hb
    by_cases e : j = i
    · simp [e] at hb; exact .inl ⟨e, hb.symm⟩
    · simp [e] at hb; exact .inr ⟨e, hb⟩
  refine ⟨ν', ⟨fun j _ => hcore j, fun j _ hn => ?_, fun j _ k hk => ?_, fun j hj hn => ?_⟩, ⟨fun j b hb => ?_, fun j m bj bm ne hj hm hoj k hk hk' => ?_⟩, ⟨hg.os, hg.tape, hg.output, hg.size, fun k hk hn => hg.block k hk fun hf => hn ⟨i, by rw [lk]; simp, hnf, hf⟩⟩⟩
  · rw [lk] at hn
    by_cases e : j = i
    · simp [e] at hn
    · rw [e2 j e]
  · by_cases e : j = i
    · subst e; rw [e1] at hk; exact .inl (hs k hk)
    · rw [e2 j e] at hk; exact .inl hk
  · rw [lk] at hn
    by_cases e : j = i
    · subst e; exact absurd hj hnf
    · simp [e] at hn
  · rcases hov j b hb with ⟨rfl, rfl⟩ | ⟨ne, h2⟩
    · rw [e1]; exact hden ν' hcore
    · rw [e2 j ne]
      refine Blk.den_congr (ν := ν) (σ := ν j) (p := nf nx) (fun m _ => (hcore m).symm) rfl rfl (hL j b h2).1 ?_
      exact Blk.loc (hr.den j b h2) fun k hk => hg.block k (Blk.bnd (hr.den j b h2) k hk) fun hf => hr.dis i j bi b (Ne.symm ne) hi h2 ho k hf hk
  · have o1 : ∃ b, L j = some b ∧ (b.owned = true ∨ j = i) ∧ (ν j).fp k := by
      rcases hov j bj hj with ⟨rfl, rfl⟩ | ⟨q, h2⟩
      · rw [e1] at hk; exact ⟨_, hi, .inr rfl, hs k hk⟩
      · rw [e2 j q] at hk; exact ⟨_, h2, .inl hoj, hk⟩
    have o2 : ∃ b, L m = some b ∧ (ν m).fp k := by
      rcases hov m bm hm with ⟨rfl, rfl⟩ | ⟨q, h2⟩
      · rw [e1] at hk'; exact ⟨_, hi, hs k hk'⟩
      · rw [e2 m q] at hk'; exact ⟨_, h2, hk'⟩
    obtain ⟨b1, h1, h1', h3⟩ := o1
    obtain ⟨b2, h2, h4⟩ := o2
    rcases h1' with h1' | rfl
    · exact hr.dis j m b1 b2 ne h1 h2 h1' k h3 h4
    · rw [hi] at h1; cases h1
      exact hr.dis j m bi b2 ne hi h2 ho k h3 h4
/-- one cell of owned cells written -/
theorem store_one (P : Program) {w : World} {t0 : TypeId} {at_ : Option Addr} {n cap row : Nat} {vals : List Value} (d1 : ownsB w 0 t0 1 (.slice at_ n cap) n vals) (hrow : row < n) {z : Value} (hz : z.oneCell' = true) :
    ∃ a0 w', at_ = some a0 ∧ (storeCells (a0.add row) [z] 0).run P w = .ok () w' ∧ ownsB w' 0 t0 1 (.slice at_ n cap) n (vals.set row z) ∧ Prog w w' (fun k => k = a0.block) ∧ (∀ k, k ≠ a0.block → w'.heap[k]? = w.heap[k]?) := by
  obtain ⟨g, of, cur, ha, _, hg, hle, hmax, hcs, htake⟩ := owned_cells d1 (by omega)
  have hcl2 : cur.toList.length = cur.size := Array.length_toList
  have hst := run_storeCells_at P g (of + row) t0 [z] 0 cur w hg (by simp; omega) (by intro x hx; simp at hx; subst hx; exact hz)
  simp only [Nat.add_zero] at hst
  refine ⟨⟨g, of, none⟩, _, ha, by rw [addr_add]; exact hst, ⟨by rw [List.length_set]; exact d1.1, .inr ⟨g, of, cap, _, by rw [ha], Nat.zero_le _, setRow_heap w g cur _ t0 (0, 0) hg, hle, hmax, ?_, ?_⟩⟩, ⟨rfl, rfl, rfl, by simp, fun k _ hk' => setRow_other w g k _ hk'⟩, fun k hk => setRow_other w g k _ hk⟩
  · simp only [List.size_toArray, List.length_append, List.length_take, List.length_drop, List.length_singleton, Array.length_toList]
    omega
  · have e : cur.toList.take (of + row) ++ [z] ++ cur.toList.drop (of + row + [z].length) = cur.toList.set (of + row) z := by
      rw [List.set_eq_take_append_cons_drop, if_pos (by omega)]; simp
    rw [e, List.drop_set, if_neg (by omega), show of + row - of = row by omega, List.take_set, htake]
theorem BxDen.put {ν ν' : Env} {σ : Slot} {w w' : World} {t tp tb : TypeId} {ks : List K} {l l' : List (Option (Row ks))} {g : List Nat} {lt : Option (Nat × Nat)} {vals : List Value} {box : Nat → Nat} {row : Nat} {z : Value} {a0 : Addr} (d : BxDen ν σ w t tp tb ks l g none vals box) (hrow : row < l.length)
    (ha : σ.core.at_ = some a0) (own' : ownsB w' 0 t 1 (.slice σ.core.at_ l.length σ.core.cap) l.length (vals.set row z)) (hk : ∀ k, k ≠ a0.block → w'.heap[k]? = w.heap[k]?) (hlen : l'.length = l.length)
    (hH : ∀ r x, Held l' g lt r x ↔ Held l g none r x ∧ r ≠ row) (hE : ∀ r, l'[r]? = some none → r ∉ g → (∀ q, lt = some q → q.1 ≠ r) → (r = row ∧ z = .nilIface) ∨ (r ≠ row ∧ l[r]? = some none))
    (hl : ∀ q, lt = some q → q.1 = row ∧ z = .iface tp (.pointer (some ⟨(ν' q.2).core.blk, (ν' q.2).core.off, none⟩))) :
    BxDen ν' ⟨σ.core, fun k => (∃ a, σ.core.at_ = some a ∧ k = a.block) ∨ ∃ r x, Held l' g lt r x ∧ k = box r⟩ w' t tp tb ks l' g lt (vals.set row z) box := by
  have hvl := d.len
  refine ⟨by rw [hlen]; exact own', fun r h1 h2 h3 => ?_, fun r x h => ?_, fun q hq => ?_, fun k => Iff.rfl, fun r x r' x' h1 h2 e => ?_, fun r x a h1 h2 => ?_⟩
  · rcases hE r h1 h2 h3 with ⟨rfl, rfl⟩ | ⟨q1, q2⟩
    · rw [List.getElem?_set_self (by omega)]
    · rw [List.getElem?_set_ne (Ne.symm q1)]
      exact d.emp r q2 h2 (fun q hq => by cases hq)
  · obtain ⟨h1, h2⟩ := (hH r x).1 h
    obtain ⟨f1, f2⟩ := d.full r x h1
    exact ⟨by rw [List.getElem?_set_ne (Ne.symm h2)]; exact f1, by rw [hk _ (d.apart r x a0 h1 ha)]; exact f2⟩
  · obtain ⟨h1, h2⟩ := hl q hq
    rw [hlen, h1, List.getElem?_set_self (by omega), h2]
    exact ⟨hrow, rfl⟩
  · exact d.inj r x r' x' ((hH r x).1 h1).1 ((hH r' x').1 h2).1 e
  · exact d.apart r x a ((hH r x).1 h1).1 h2
theorem storeX_ok {t : TypeId} {x y : Operand} {i sz row fld : Nat} {r : R} (hop : o.op = .store t x y) (hx : ρ x = .pr i sz row fld) (hr : storeX C.P L t i sz row fld (ρ y) = some r) (h : r.eval = some (v, u)) : OpOk C.P o ρ L nx v u := by
  unfold storeX at hr
  split at hr
  · rename_i t0 tp tb ks l g hL
    cases hr
    split at h
    · rename_i hsz
      obtain ⟨rfl, rfl⟩ := hsz
      obtain ⟨n, hn, h⟩ := opt_eval h
      split at h
      · rename_i hn1
        subst hn1
        -- the run, for a value of one cell
        have run : ∀ {z : Value} {l' : List (Option (Row ks))} {lt : Option (Nat × Nat)} {ν : Env} {a : Act} {w : World} {K : Act → World → Prop} {Q : Exit → Act → World → Prop}, row < l.length → (∀ x, (ρ x).isJunk = false → a.eval x = (ρ x).den ν) → (∀ i b, L i = some b → b.ok (nf nx) = true ∧ ¬ fresh nx i) → Rel ν L w →
            a.eval y = z → z.cells = [z].toArray → z.oneCell' = true → l'.length = l.length →
            (∀ r x, Held l' g lt r x ↔ Held l g none r x ∧ r ≠ row) → (∀ r, l'[r]? = some none → r ∉ g → (∀ q, lt = some q → q.1 ≠ r) → (r = row ∧ z = .nilIface) ∨ (r ≠ row ∧ l[r]? = some none)) →
            (∀ ν' : Env, (∀ j, (ν' j).core = (ν j).core) → ∀ q, lt = some q → q.1 = row ∧ z = .iface tp (.pointer (some ⟨(ν' q.2).core.blk, (ν' q.2).core.off, none⟩))) →
            (∀ ν' w', Ext ν ν' w nx [(i, .bx t0 tp tb ks l' g lt)] → Rel ν' (over [(i, .bx t0 tp tb ks l' g lt)] L) w' → Prog w w' (touched ν nx [(i, .bx t0 tp tb ks l' g lt)]) → K (a.put o.dst ((V.raw undef).den ν')) w') → o.wp C.P a w K Q := by
          intro z l' lt ν a w K Q hrow he hL' hr ey hzc hz1 hlen hH hE hl hk
          obtain ⟨vals, box, d⟩ := hr.den i _ hL
          obtain ⟨a0, w', ha, hst, own', hpr, hkeep⟩ := store_one C.P d.own hrow hz1
          have e0 : a.eval x = .pointer (some (a0.add row)) := by
            rw [he x (by rw [hx]; rfl), hx]
            simp only [V.den, ha, Option.getD_some, Nat.mul_one, Nat.add_zero]
          have hrun : (execOp a.eval o).run C.P w = .ok .skip w' := by
            unfold execOp
            simp only [hop, e0, ey, Instr.storeAt, Instr.sureAddr, storeVar, Sem.run_bind, Sem.run_pure, Result.andThen_ok, run_sizeOf hn]
            rw [hzc]
            simp only [List.size_toArray, List.length_singleton, ne_eq, not_true_eq_false, if_false, hst]
            rfl
          have hfp : (ν i).fp a0.block := (d.fp _).2 (.inl ⟨a0, ha, rfl⟩)
          obtain ⟨ν', u1, u2, u3⟩ := updLess (nx := nx) (b' := .bx t0 tp tb ks l' g lt) (σ := ⟨(ν i).core, fun k => (∃ a, (ν i).core.at_ = some a ∧ k = a.block) ∨ ∃ r x, Held l' g lt r x ∧ k = box r⟩) hL' hr hL rfl (Prog.weaken hpr fun k hk => by rw [hk]; exact hfp) rfl (fun k hk => by
            rcases hk with hk | ⟨r, x, h1, rfl⟩
            · exact (d.fp k).2 (.inl hk)
            · exact (d.fp _).2 (.inr ⟨r, x, ((hH r x).1 h1).1, rfl⟩)) (fun ν' hc => ⟨_, box, d.put hrow ha own' hkeep hlen hH hE (hl ν' hc)⟩)
          unfold Oper.wp
          rw [hrun]
          exact hk ν' w' u1 u2 u3
        split at h
        · rename_i hy
          obtain ⟨hrow, h⟩ := ite_some h
          simp only [decide_eq_true_eq] at hrow
          simp only [T.eval, Option.some.injEq, Prod.mk.injEq] at h
          obtain ⟨rfl, rfl⟩ := h
          intro ν a w K Q he hok hL' hr hk
          refine run (z := .nilIface) hrow he hL' hr (by rw [he y (by rw [hy]; rfl), hy]; rfl) rfl rfl (by rw [List.length_set]) ?_ ?_ (fun _ _ q hq => by cases hq) hk
          · intro r x
            constructor
            · rintro ⟨h1, h2, h3⟩
              by_cases e : r = row
              · subst e; rw [List.getElem?_set_self hrow] at h1; cases h1
              · rw [List.getElem?_set_ne (Ne.symm e)] at h1; exact ⟨⟨h1, h2, h3⟩, e⟩
            · rintro ⟨⟨h1, h2, h3⟩, e⟩
              exact ⟨by rw [List.getElem?_set_ne (Ne.symm e)]; exact h1, h2, h3⟩
          · intro r h1 h2 h3
            by_cases e : r = row
            · exact .inl ⟨e, rfl⟩
            · rw [List.getElem?_set_ne (Ne.symm e)] at h1; exact .inr ⟨e, h1⟩
        · rename_i tq j hy
          split at h
          · rename_i ht
            subst ht
            obtain ⟨hrow, h⟩ := ite_some h
            simp only [decide_eq_true_eq] at hrow
            simp only [T.eval, Option.some.injEq, Prod.mk.injEq] at h
            obtain ⟨rfl, rfl⟩ := h
            intro ν a w K Q he hok hL' hr hk
            refine run (z := .iface tq (.pointer (some ⟨(ν j).core.blk, (ν j).core.off, none⟩))) hrow he hL' hr (by rw [he y (by rw [hy]; rfl), hy]; rfl) rfl rfl rfl ?_ ?_ (fun ν' hc q hq => by cases hq; exact ⟨rfl, by rw [hc j]⟩) hk
            · intro r x
              exact ⟨fun ⟨h1, h2, h3⟩ => ⟨⟨h1, h2, fun q hq => by cases hq⟩, Ne.symm (h3 _ rfl)⟩, fun ⟨⟨h1, h2, _⟩, e⟩ => ⟨h1, h2, fun q hq => by cases hq; exact Ne.symm e⟩⟩
            · intro r h1 h2 h3
              exact .inr ⟨Ne.symm (h3 _ rfl), h1⟩
          · cases h
        · cases h
      · cases h
    · cases h
  · cases hr
theorem makeX_ok {t : TypeId} {l c : Operand} {r : R} (hop : o.op = .makeSlice t l c) (hr : makeX C nx t (ρ l) (ρ c) = some r) (h : r.eval = some (v, u)) : OpOk C.P o ρ L nx v u := by
  unfold makeX at hr
  split at hr
  · rename_i e tp tb ks hbx
    cases hr
    have hu : C.P.underlying t = some (.slice e) := by
      unfold boxOf at hbx
      split at hbx
      · rename_i e' hu
        split at hbx
        · split at hbx
          · split at hbx
            · obtain ⟨ks', _, h2⟩ := Option.map_eq_some_iff.1 hbx
              simp only [Prod.mk.injEq] at h2
              rw [hu, h2.1]
            · cases hbx
          · cases hbx
        · cases hbx
      · cases hbx
    obtain ⟨ie, hie, h⟩ := opt_eval h
    obtain ⟨n, hn, h⟩ := opt_eval h
    obtain ⟨m, hm, h⟩ := opt_eval h
    split at h
    · rename_i hcond
      obtain ⟨hz0, c1, c2⟩ := hcond
      have hz : ie.zero = some .nilIface := by
        unfold isNilI at hz0
        split at hz0
        · assumption
        · cases hz0
      obtain ⟨hb, h⟩ := ite_some h
      simp only [Bool.and_eq_true, decide_eq_true_eq] at hb
      obtain ⟨b1, b2, b3⟩ := hb
      simp only [T.eval, Option.some.injEq, Prod.mk.injEq] at h
      obtain ⟨rfl, rfl⟩ := h
      intro ν a w K Q he hok hL' hr hk
      obtain ⟨kl, el⟩ := num_eval he hn
      obtain ⟨kc, ec⟩ := num_eval he hm
      have hby : (ie.bytes : Int) * m ≤ 281474976710656 := by
        have h1 : (ie.bytes : Int) ≤ 100000000 := by omega
        have := Int.mul_le_mul h1 b3 (by omega) (by omega)
        omega
      have hrun := run_make (P := C.P) w t e ie .nilIface hu hie hz kl kc n m b1 b2 hby (by omega)
      rw [c1, Nat.mul_one] at hrun
      have hml : (madeCells (Value.nilIface).cells m.toNat).toList = List.replicate m.toNat .nilIface := by
        apply List.ext_getElem?
        intro j
        by_cases hj : j < m.toNat
        · rw [List.getElem?_replicate, if_pos hj]
          simp [madeCells, hj, Value.cells, Nat.mod_one]
        · rw [List.getElem?_replicate, if_neg hj, List.getElem?_eq_none (by simp [madeCells]; omega)]
      have hbl : Below w.heap.size w (w.alloc (.cells (madeCells (Value.nilIface).cells m.toNat) e)) := ⟨rfl, rfl, rfl, by simp, fun k hk => Below.heap_alloc w _ k hk⟩
      have nh : ∀ {r x}, ¬ Held (ks := ks) (List.replicate n.toNat none) [] none r x := by
        rintro r x ⟨h1, _⟩
        rw [List.getElem?_replicate] at h1
        split at h1 <;> cases h1
      obtain ⟨ν', e1, hx', hrel, hpr⟩ := newAny (b := .bx e tp tb ks (List.replicate n.toNat none) [] none) (σ := ⟨⟨0, 0, m.toNat, some ⟨w.heap.size, 0, none⟩, false⟩, fun k => k = w.heap.size⟩) rfl hL' hr hbl (by
        rintro k rfl; exact Nat.le_refl _) (fun ν' _ => ⟨List.replicate n.toNat .nilIface, fun _ => 0, ⟨by
          rw [List.length_replicate]
          exact ownsB_of ⟨by simp, .inr ⟨w.heap.size, m.toNat, _, rfl, Nat.zero_le _, heap_alloc_new w _, by omega, by simp only [maxLen]; omega, by rw [size_madeCells]; omega, by
            rw [hml, List.take_replicate]; congr 1; omega⟩⟩, fun r h1 _ _ => (by
          rw [List.getElem?_replicate] at h1 ⊢
          split at h1
          · rename_i q; rw [if_pos q]
          · cases h1), fun r x h => absurd h nh, fun q hq => (by cases hq), fun k => ⟨fun h => .inl ⟨_, rfl, h⟩, fun h => (by
          rcases h with ⟨a, ha, rfl⟩ | ⟨r, x, h, _⟩
          · cases ha; rfl
          · exact absurd h nh)⟩, fun r x r' x' h => absurd h nh, fun r x a h => absurd h nh⟩⟩)
      have fin := hk ν' _ hx' hrel hpr
      have e2 : V.den ν' (V.sub nx 1 0 n.toNat) = .slice (some ⟨w.heap.size, 0, none⟩) n.toNat m.toNat := by
        simp only [V.den, e1, Nat.zero_mul, Nat.sub_zero, Option.map_some]
        congr 2
        split <;> simp [Addr.add]
      rw [e2] at fin
      unfold Oper.wp
      have : (execOp a.eval o).run C.P w = .ok (.value (.slice (some ⟨w.heap.size, 0, none⟩) n.toNat m.toNat)) (w.alloc (.cells (madeCells (Value.nilIface).cells m.toNat) e)) := by
        unfold execOp
        simp only [hop, el, ec, Sem.run_bind, hrun, Result.andThen_ok, Sem.run_pure]
      rw [this]
      exact fin
    · cases h
  · cases hr
/-- a row is lent: its block gets the number nx -/
theorem lend {ν : Env} {w : World} {i row : Nat} {t0 tp tb : TypeId} {ks : List K} {l : List (Option (Row ks))} {g : List Nat} {x : Row ks} (hL : ∀ i b, L i = some b → b.ok (nf nx) = true ∧ ¬ fresh nx i) (hr : Rel ν L w) (hi : L i = some (.bx t0 tp tb ks l g none)) (hh : Held l g none row x) :
    ∃ ν' : Env, (∃ vals box, BxDen ν (ν i) w t0 tp tb ks l g none vals box ∧ vals[row]? = some (V.den ν' (.iface tp (.ptr nx 0)))) ∧
      Ext ν ν' w nx [(nx, .cells tb ((Row.cells ks x).map V.s)), (i, .bx t0 tp tb ks l g (some (row, nx)))] ∧ Rel ν' (over [(nx, .cells tb ((Row.cells ks x).map V.s)), (i, .bx t0 tp tb ks l g (some (row, nx)))] L) w := by
  obtain ⟨vals, box, d⟩ := hr.den i _ hi
  obtain ⟨f1, f2⟩ := d.full row x hh
  have hrow : row < l.length := by
    rcases Nat.lt_or_ge row l.length with q | q
    · exact q
    · have h0 := hh.1
      rw [List.getElem?_eq_none q] at h0; cases h0
  have hnx : fresh nx nx := ⟨Nat.le_refl _, by unfold stride; omega⟩
  have hif : ¬ fresh nx i := (hL i _ hi).2
  have hin : i ≠ nx := fun e => hif (by rw [e]; exact hnx)
  let σ : Slot := ⟨⟨box row, 0, 0, none, false⟩, fun k => k = box row⟩
  let σi : Slot := ⟨(ν i).core, fun k => (ν i).fp k ∧ k ≠ box row⟩
  let ν' : Env := fun j => if j = nx then σ else if j = i then σi else ν j
  generalize hb1 : Blk.cells tb ((Row.cells ks x).map V.s) = b1
  generalize hb2 : Blk.bx t0 tp tb ks l g (some (row, nx)) = b2
  have lk : ∀ j, look [(nx, b1), (i, b2)] j = if j = nx then some b1 else if j = i then some b2 else none := by
    intro j
    simp only [look]
    by_cases e : j = nx
    · simp [e]
    · have q : (nx == j) = false := by simp; exact fun h => e h.symm
      by_cases e2 : j = i
      · subst e2
        rw [if_neg e, q]
        simp
      · have q2 : (i == j) = false := by simp; exact fun h => e2 h.symm
        simp [e, e2, q, q2]
  have e1 : ν' nx = σ := by simp [ν']
  have e2 : ν' i = σi := by simp [ν', hin]
  have e3 : ∀ j, j ≠ nx → j ≠ i → ν' j = ν j := fun j h1 h2 => by simp [ν', h1, h2]
  have hbr : (ν i).fp (box row) := (d.fp _).2 (.inr ⟨row, x, hh, rfl⟩)
  have hcore : ∀ j, ¬ fresh nx j → (ν' j).core = (ν j).core := by
    intro j hj
    by_cases q : j = i
    · subst q; rw [e2]
    · rw [e3 j (fun e => hj (by rw [e]; exact hnx)) q]
  have hov : ∀ j b', over [(nx, b1), (i, b2)] L j = some b' → (j = nx ∧ b' = b1) ∨ (j = i ∧ j ≠ nx ∧ b' = b2) ∨ (j ≠ nx ∧ j ≠ i ∧ L j = some b') := by
    intro j b' hb
    unfold over at hb
    rw [lk] at hb
    by_cases q : j = nx
    · simp [q] at hb; exact .inl ⟨q, hb.symm⟩
    · by_cases q2 : j = i
      · simp [q2, hin] at hb; exact .inr (.inl ⟨q2, q, hb.symm⟩)
      · simp [q, q2] at hb; exact .inr (.inr ⟨q, q2, hb⟩)
  refine ⟨ν', ⟨vals, box, d, ?_⟩, ⟨hcore, fun j hj hn => ?_, fun j hj k hk => ?_, fun j _ hn k hk => ?_⟩, ⟨fun j b' hb' => ?_, fun j m bj bm ne hj hm hoj k hk hk' => ?_⟩⟩
  · rw [f1]; simp [V.den, e1, σ]
  · have hjn : j ≠ nx := fun e => hj (by rw [e]; exact hnx)
    rw [lk] at hn
    by_cases q : j = i
    · rw [if_neg hjn, if_pos q] at hn; cases hn
    · rw [e3 j hjn q]
  · have hjn : j ≠ nx := fun e => hj (by rw [e]; exact hnx)
    by_cases q : j = i
    · subst q; rw [e2] at hk; exact .inl hk.1
    · rw [e3 j hjn q] at hk; exact .inl hk
  · by_cases q : j = nx
    · subst q
      rw [e1] at hk
      exact .inr ⟨i, hif, by rw [lk]; simp [hin], by rw [show k = box row from hk]; exact hbr⟩
    · by_cases q2 : j = i
      · subst q2; rw [e2] at hk; exact .inr ⟨j, hif, by rw [lk]; simp [hin], hk.1⟩
      · rw [lk] at hn; simp [q, q2] at hn
  · rcases hov j b' hb' with ⟨rfl, rfl⟩ | ⟨rfl, _, rfl⟩ | ⟨q1, q2, h2⟩
    · rw [e1, ← hb1]
      refine ⟨rfl, fun k => Iff.rfl, ?_⟩
      rw [f2, denL_map, List.map_map]; rfl
    · rw [e2, ← hb2]
      have hH : ∀ r y, Held l g (some (row, nx)) r y ↔ Held l g none r y ∧ r ≠ row := fun r y =>
        ⟨fun ⟨h1, h2, h3⟩ => ⟨⟨h1, h2, fun q hq => by cases hq⟩, Ne.symm (h3 _ rfl)⟩, fun ⟨⟨h1, h2, _⟩, e⟩ => ⟨h1, h2, fun q hq => by cases hq; exact Ne.symm e⟩⟩
      refine ⟨vals, box, d.own, fun r h1 h2 _ => d.emp r h1 h2 (fun q hq => by cases hq), fun r y h => d.full r y ((hH r y).1 h).1, fun q hq => ?_, fun k => ?_, fun r y r' y' h1 h2 => d.inj r y r' y' ((hH r y).1 h1).1 ((hH r' y').1 h2).1, fun r y a h1 h2 => d.apart r y a ((hH r y).1 h1).1 h2⟩
      · cases hq
        exact ⟨hrow, by rw [f1, e1]⟩
      · show (ν j).fp k ∧ k ≠ box row ↔ _
        rw [d.fp k]
        constructor
        · rintro ⟨h1 | ⟨r, y, h1, rfl⟩, h2⟩
          · exact .inl h1
          · exact .inr ⟨r, y, (hH r y).2 ⟨h1, fun e => h2 (by rw [e])⟩, rfl⟩
        · rintro (⟨a, h1, rfl⟩ | ⟨r, y, h1, rfl⟩)
          · exact ⟨.inl ⟨a, h1, rfl⟩, fun e => d.apart row x a hh h1 e.symm⟩
          · obtain ⟨h2, h3⟩ := (hH r y).1 h1
            exact ⟨.inr ⟨r, y, h2, rfl⟩, fun e => h3 (d.inj r y row x h2 hh e)⟩
    · have h3 := hL j b' h2
      rw [e3 j q1 q2]
      exact Blk.den_congr (ν := ν) (σ := ν j) (p := nf nx) (fun m hm => (hcore m (nf_iff.1 hm)).symm) rfl rfl h3.1 (hr.den j b' h2)
  · have key : ∀ {j : Nat} {b' : Blk}, over [(nx, b1), (i, b2)] L j = some b' → (ν' j).fp k → (j = nx ∧ k = box row) ∨ (j = i ∧ (ν i).fp k ∧ k ≠ box row) ∨ (j ≠ i ∧ L j = some b' ∧ (ν j).fp k) := by
      intro j b' hb' hk
      rcases hov j b' hb' with ⟨rfl, rfl⟩ | ⟨rfl, _, rfl⟩ | ⟨q1, q2, h2⟩
      · rw [e1] at hk; exact .inl ⟨rfl, hk⟩
      · rw [e2] at hk; exact .inr (.inl ⟨rfl, hk⟩)
      · rw [e3 j q1 q2] at hk; exact .inr (.inr ⟨q2, h2, hk⟩)
    rcases key hj hk with ⟨q1, q2⟩ | ⟨q1, q2, q3⟩ | ⟨q1, q2, q3⟩
    · rcases key hm hk' with ⟨r1, _⟩ | ⟨_, _, r3⟩ | ⟨r1, r2, r3⟩
      · exact ne (q1.trans r1.symm)
      · exact r3 q2
      · exact hr.dis i m _ bm (Ne.symm r1) hi r2 rfl k (by rw [q2]; exact hbr) r3
    · rcases key hm hk' with ⟨_, r2⟩ | ⟨r1, _, _⟩ | ⟨r1, r2, r3⟩
      · exact q3 r2
      · exact ne (q1.trans r1.symm)
      · exact hr.dis i m _ bm (Ne.symm r1) hi r2 rfl k q2 r3
    · rcases key hm hk' with ⟨_, r2⟩ | ⟨r1, r2, _⟩ | ⟨r1, r2, r3⟩
      · exact hr.dis j i bj _ q1 q2 hi hoj k q3 (by rw [r2]; exact hbr)
      · exact hr.dis j i bj _ q1 q2 hi hoj k q3 r2
      · exact hr.dis j m bj bm ne q2 r2 hoj k q3 r3
theorem loadX_ok {t : TypeId} {x : Operand} {i sz row fld : Nat} {r : R} (hop : o.op = .load t x) (hx : ρ x = .pr i sz row fld) (hr : loadX C.P L nx t i sz row fld = some r) (h : r.eval = some (v, u)) : OpOk C.P o ρ L nx v u := by
  unfold loadX at hr
  split at hr
  · rename_i t0 tp tb ks l g hL
    cases hr
    split at h
    · rename_i hsz
      obtain ⟨rfl, rfl⟩ := hsz
      obtain ⟨b, hb, h⟩ := opt_eval h
      cases b with
      | true => cases h
      | false =>
        simp only [Bool.false_eq_true, if_false] at h
        obtain ⟨hq, h⟩ := ite_some h
        rw [Bool.and_eq_true] at hq
        have hrow := of_decide_eq_true hq.2
        have hg : row ∉ g := by
          have := hq.1
          simpa using this
        have run : ∀ {ν : Env} {a : Act} {w : World} {z : Value} {vals : List Value} {box : Nat → Nat}, (∀ x, (ρ x).isJunk = false → a.eval x = (ρ x).den ν) → BxDen ν (ν i) w t0 tp tb ks l g none vals box → vals[row]? = some z → (execOp a.eval o).run C.P w = .ok (.value z) w := by
          intro ν a w z vals box he d hz
          obtain ⟨a0, ea, hc⟩ := d.cell hrow
          have e0 : a.eval x = .pointer (some (a0.add row)) := by
            rw [he x (by rw [hx]; rfl), hx]
            simp only [V.den, ea, Option.getD_some, Nat.mul_one, Nat.add_zero]
          unfold execOp
          simp [hop, e0, Instr.loadAt, Instr.sureAddr, loadVar, Sem.run_bind, run_isAgg hb, hc z hz, V.den]
        simp only [T.eval] at h
        cases q : isBox l row with
        | true =>
          rw [q] at h
          simp only [cond_true, Option.some.injEq, Prod.mk.injEq] at h
          obtain ⟨rfl, rfl⟩ := h
          intro ν a w K Q he hok hL' hr hk
          obtain ⟨ν', ⟨vals, box, d, hz⟩, hxt, hrel⟩ := lend hL' hr hL ⟨isBox_true q, hg, fun q hq => by cases hq⟩
          unfold Oper.wp
          rw [run he d hz]
          exact hk ν' w hxt hrel (Prog.refl _ _)
        | false =>
          rw [q] at h
          obtain ⟨rfl, rfl⟩ := pu_eval h
          refine opOk_pure fun ν w a he hr => ?_
          obtain ⟨vals, box, d⟩ := hr.den i _ hL
          exact run he d (d.emp row (isBox_false hrow q) hg (fun q hq => by cases hq))
    · cases h
  · cases hr
theorem boxx_ok {r : R} (hr : boxx C ρ L nx o = some r) (h : r.eval = some (v, u)) : OpOk C.P o ρ L nx v u := by
  unfold boxx at hr
  split at hr
  · rename_i hop
    split at hr
    · rename_i hx; exact loadX_ok hop hx hr h
    · cases hr
  · rename_i hop
    split at hr
    · rename_i hx; exact storeX_ok hop hx hr h
    · cases hr
  · rename_i hop
    split at hr
    · rename_i hx; exact indexAddrX_ok hop hx hr h
    · cases hr
  · rename_i hop; exact makeX_ok hop hr h
  · cases hr
end box
/-! ### what was lent is taken back -/
theorem settleRel {ν : Env} {L : Look} {w : World} {p : Nat → Bool} (hok : ∀ i b, L i = some b → b.ok p = true) {i j row : Nat} {t tp tb : TypeId} {ks : List K} {l : List (Option (Row ks))} {g : List Nat} {cs : List V} {x : Row ks} (hr : Rel ν L w) (hi : L i = some (.bx t tp tb ks l g (some (row, j)))) (hj : L j = some (.cells tb cs)) (hx : Row.of L ks cs = some x) :
    ∃ ν' : Env, (∀ m, (ν' m).core = (ν m).core) ∧ (∀ m, m ≠ i → m ≠ j → ν' m = ν m) ∧ (∀ k, (ν' i).fp k → (ν i).fp k ∨ (ν j).fp k) ∧ (∀ k, ¬ (ν' j).fp k) ∧
      (∀ L' : Look, (∀ m b, m ≠ i → m ≠ j → L' m = some b → L m = some b) → (∀ b, L' i = some b → b = .bx t tp tb ks (l.set row (some x)) g none) → (∀ b, L' j = some b → b = .dead) → Rel ν' L' w) := by
  have hij : i ≠ j := fun e => by rw [e, hj] at hi; cases hi
  obtain ⟨vals, box, d⟩ := hr.den i _ hi
  obtain ⟨j1, j2, j3⟩ := hr.den j _ hj
  obtain ⟨hrow, hcell⟩ := d.lent _ rfl
  simp only at hrow hcell
  have hjf : (ν j).fp (ν j).core.blk := (j2 _).2 rfl
  have hji : ¬ (ν i).fp (ν j).core.blk := fun h => hr.dis i j _ _ hij hi hj rfl _ h hjf
  let box' : Nat → Nat := fun r => if r = row then (ν j).core.blk else box r
  have b1 : box' row = (ν j).core.blk := by simp [box']
  have b2 : ∀ r, r ≠ row → box' r = box r := fun r h => by simp [box', h]
  have hH : ∀ r y, Held (l.set row (some x)) g none r y ↔ (r = row ∧ y = x ∧ row ∉ g) ∨ (r ≠ row ∧ Held l g (some (row, j)) r y) := by
    intro r y
    constructor
    · rintro ⟨h1, h2, _⟩
      by_cases e : r = row
      · subst e
        rw [List.getElem?_set_self hrow] at h1
        simp only [Option.some.injEq] at h1
        exact .inl ⟨rfl, h1.symm, h2⟩
      · rw [List.getElem?_set_ne (Ne.symm e)] at h1
        exact .inr ⟨e, h1, h2, fun q hq => by cases hq; exact Ne.symm e⟩
    · rintro (⟨rfl, rfl, h⟩ | ⟨e, h1, h2, _⟩)
      · exact ⟨by rw [List.getElem?_set_self hrow], h, fun q hq => by cases hq⟩
      · exact ⟨by rw [List.getElem?_set_ne (Ne.symm e)]; exact h1, h2, fun q hq => by cases hq⟩
  let σi : Slot := ⟨(ν i).core, fun k => (∃ a, (ν i).core.at_ = some a ∧ k = a.block) ∨ ∃ r y, Held (l.set row (some x)) g none r y ∧ k = box' r⟩
  have hσ : ∀ k, σi.fp k → (ν i).fp k ∨ (ν j).fp k := by
    rintro k (h | ⟨r, y, h, rfl⟩)
    · exact .inl ((d.fp k).2 (.inl h))
    · rcases (hH r y).1 h with ⟨rfl, _, _⟩ | ⟨e, h⟩
      · rw [b1]; exact .inr hjf
      · rw [b2 r e]; exact .inl ((d.fp _).2 (.inr ⟨r, y, h, rfl⟩))
  let ν' : Env := fun m => if m = i then σi else if m = j then ⟨(ν j).core, fun _ => False⟩ else ν m
  have e1 : ν' i = σi := by simp [ν']
  have e2 : ν' j = ⟨(ν j).core, fun _ => False⟩ := by simp [ν', Ne.symm hij]
  have e3 : ∀ m, m ≠ i → m ≠ j → ν' m = ν m := fun m h1 h2 => by simp [ν', h1, h2]
  have hcore : ∀ m, (ν' m).core = (ν m).core := by
    intro m
    by_cases q : m = i
    · subst q; rw [e1]
    · by_cases q2 : m = j
      · subst q2; rw [e2]
      · rw [e3 m q q2]
  have hrc : (Row.cells ks x).map S.den = denL ν cs := (Row.of_den hr hx).symm
  have hden : (Blk.bx t tp tb ks (l.set row (some x)) g none).den ν' σi w := by
    have hold : ∀ r y, r ≠ row → Held l g (some (row, j)) r y → box' r ≠ (ν j).core.blk := fun r y e h e' => hji (by rw [← e', b2 r e]; exact (d.fp _).2 (.inr ⟨r, y, h, rfl⟩))
    refine ⟨vals, box', by rw [List.length_set]; exact d.own, fun r h1 h2 _ => ?_, fun r y h => ?_, fun q hq => (by cases hq), fun k => Iff.rfl, fun r y r' y' h1 h2 e => ?_, fun r y a h1 h2 => ?_⟩
    · by_cases e : r = row
      · subst e; rw [List.getElem?_set_self hrow] at h1; cases h1
      · rw [List.getElem?_set_ne (Ne.symm e)] at h1
        exact d.emp r h1 h2 (fun q hq => by cases hq; exact Ne.symm e)
    · rcases (hH r y).1 h with ⟨rfl, rfl, _⟩ | ⟨e, h⟩
      · rw [b1, hcell, j1, hrc]; exact ⟨rfl, j3⟩
      · rw [b2 r e]; exact d.full r y h
    · rcases (hH r y).1 h1 with ⟨p1, _, _⟩ | ⟨q1, m1⟩ <;> rcases (hH r' y').1 h2 with ⟨p2, _, _⟩ | ⟨q2, m2⟩
      · rw [p1, p2]
      · rw [p1, b1] at e; exact absurd e.symm (hold r' y' q2 m2)
      · rw [p2, b1] at e; exact absurd e (hold r y q1 m1)
      · rw [b2 r q1, b2 r' q2] at e; exact d.inj r y r' y' m1 m2 e
    · have h2' : (ν i).core.at_ = some a := h2
      rcases (hH r y).1 h1 with ⟨rfl, rfl, _⟩ | ⟨q1, h1⟩
      · rw [b1]
        intro e
        exact hji (by rw [e]; exact (d.fp _).2 (.inl ⟨a, h2', rfl⟩))
      · rw [b2 r q1]; exact d.apart r y a h1 h2'
  refine ⟨ν', hcore, e3, fun k hk => by rw [e1] at hk; exact hσ k hk, fun k hk => by rw [e2] at hk; exact hk, fun L' h1 h2 h3 => ⟨fun m b hm => ?_, fun m n bm bn ne hm hn ho k hk hk' => ?_⟩⟩
  · by_cases q : m = i
    · subst q
      rw [e1, h2 b hm]; exact hden
    · by_cases q2 : m = j
      · subst q2; rw [e2, h3 b hm]; exact fun _ h => h
      · rw [e3 m q q2]
        exact Blk.den_congr (ν := ν) (σ := ν m) (p := p) (fun n _ => (hcore n).symm) rfl rfl (hok m b (h1 m b q q2 hm)) (hr.den m b (h1 m b q q2 hm))
  · have key : ∀ {m : Nat} {b : Blk}, L' m = some b → (ν' m).fp k → (m = i ∧ ((ν i).fp k ∨ (ν j).fp k)) ∨ (m ≠ i ∧ m ≠ j ∧ L m = some b ∧ (ν m).fp k) := by
      intro m b hm hk
      by_cases q : m = i
      · subst q; rw [e1] at hk; exact .inl ⟨rfl, hσ k hk⟩
      · by_cases q2 : m = j
        · subst q2; rw [e2] at hk; exact hk.elim
        · rw [e3 m q q2] at hk; exact .inr ⟨q, q2, h1 m b q q2 hm, hk⟩
    rcases key hm hk with ⟨q1, q2⟩ | ⟨q1, q2, q3, q4⟩
    · rcases key hn hk' with ⟨r1, _⟩ | ⟨r1, r2, r3, r4⟩
      · exact ne (q1.trans r1.symm)
      · rcases q2 with q2 | q2
        · exact hr.dis i n _ bn (Ne.symm r1) hi r3 rfl k q2 r4
        · exact hr.dis j n _ bn (Ne.symm r2) hj r3 rfl k q2 r4
    · rcases key hn hk' with ⟨r1, r2⟩ | ⟨r1, r2, r3, r4⟩
      · rcases r2 with r2 | r2
        · exact hr.dis m i bm _ q1 q3 hi ho k q4 r2
        · exact hr.dis m j bm _ q2 q3 hj ho k q4 r2
      · exact hr.dis m n bm bn ne q3 r3 ho k q4 r4
end Go.Eng
