/- The machine: arrays as rows; slices within their rows; rows taken out in place, wiped; then one operation, of whatever kind. No program is named here. -/
import Derived.Test.YtheknddbbgjpkaaEngX
namespace Go.Eng
open Go.RowKit
set_option linter.unusedVariables false
set_option linter.unusedSimpArgs false
section arr
variable {C : Cfg} {o : Oper} {ρ : Operand → V} {L : Look} {nx : Nat} {v : V} {u : Heap}
/-- an array of 50 and more cells of one plain kind, made -/
def allocA (P : Program) (nx : Nat) (t : TypeId) (len : Nat) (e : TypeId) : R :=
  opt ((P.info? t).bind (·.zero)) fun z => opt (kindsOf P e) fun ks => opt (chunks (fun _ => none) ks ks.length len (z.cells.toList.map ofCell)) fun rows =>
    if ks.length = 1 ∧ len ≤ 1000000 ∧ len ≤ z.cells.size then .ret (.pr nx ks.length 0 0, [(nx, .lst true t ks rows)]) else .fail
theorem allocA_ok {t e : TypeId} {len : Nat} (hop : o.op = .alloc t) (h : (allocA C.P nx t len e).eval = some (v, u)) : OpOk C.P o ρ L nx v u := by
  unfold allocA at h
  obtain ⟨z, hz, h⟩ := opt_eval h
  obtain ⟨ks, hks, h⟩ := opt_eval h
  obtain ⟨rows, hrows, h⟩ := opt_eval h
  split at h
  · rename_i hc
    obtain ⟨c1, c2, c3⟩ := hc
    simp only [T.eval, Option.some.injEq, Prod.mk.injEq] at h
    obtain ⟨rfl, rfl⟩ := h
    intro ν a w K Q he hok hL' hr hk
    obtain ⟨hlen, hv⟩ := chunks_den (L := fun _ => none) (ν := ν) (w := w) ⟨fun i b h => (by cases h), fun i j bi bj _ h => (by cases h)⟩ hrows (by rw [c1]; simp; omega)
    have hcells : denL ν (z.cells.toList.map ofCell) = z.cells.toList := by
      rw [denL_map, List.map_map]
      conv => rhs; rw [← List.map_id z.cells.toList]
      apply List.map_congr_left
      intro x _
      exact ofCell_den ν x
    rw [hcells] at hv
    have hbl : Below w.heap.size w (w.alloc (.cells z.cells t)) := ⟨rfl, rfl, rfl, by simp, fun k hk => Below.heap_alloc w _ k hk⟩
    obtain ⟨ν', e1, hx', hrel, hpr⟩ := newAny (b := .lst true t ks rows) (σ := ⟨⟨0, 0, rows.length, some ⟨w.heap.size, 0, none⟩, false⟩, fun k => ∃ a, (some ⟨w.heap.size, 0, none⟩ : Option Addr) = some a ∧ k = a.block⟩) rfl hL' hr hbl (by
      rintro k ⟨a', ha', rfl⟩
      cases ha'; exact Nat.le_refl _) (fun ν' _ => ⟨⟨by rw [rowsV_length], .inr ⟨w.heap.size, 0, rows.length, z.cells, rfl, Nat.zero_le _, heap_alloc_new w _, Nat.le_refl _, by simp only [maxLen]; omega, by rw [hlen, c1]; omega, by rw [hv, List.drop_zero, hlen]⟩⟩, fun k => Iff.rfl⟩)
    have fin := hk ν' _ hx' hrel hpr
    have e2 : V.den ν' (V.pr nx ks.length 0 0) = .pointer (some ⟨w.heap.size, 0, none⟩) := by
      simp only [V.den, e1, Option.getD_some, Nat.zero_mul, Nat.zero_add]; rfl
    rw [e2] at fin
    unfold Oper.wp
    have : (execOp a.eval o).run C.P w = .ok (.value (.pointer (some ⟨w.heap.size, 0, none⟩))) (w.alloc (.cells z.cells t)) := by
      unfold execOp
      simp only [hop, Instr.alloc, newVar, newRow, Sem.run_bind, run_zeroValue hz, run_newObj, Result.andThen_ok, Sem.run_pure]
      rfl
    rw [this]
    exact fin
  · cases h
/-- a place of such an array -/
def indexAddrA (P : Program) (L : Look) (t : TypeId) (i sz : Nat) (ix : V) : R :=
  match P.underlying t, L i with
  | some (.array len e), some (.lst _ _ ks l) => opt (numV ix) fun n => if sizeB P e = some sz ∧ sz = ks.length ∧ 0 < sz then
      .ite none (decide (0 ≤ n) && (decide (n < (len : Int)) && decide (n.toNat < l.length))) (pu (.pr i sz n.toNat 0)) .fail
    else .fail
  | _, _ => .fail
theorem indexAddrA_ok {t : TypeId} {x ix : Operand} {i sz : Nat} (hop : o.op = .indexAddr t x ix) (hx : ρ x = .pr i sz 0 0) (h : (indexAddrA C.P L t i sz (ρ ix)).eval = some (v, u)) : OpOk C.P o ρ L nx v u := by
  unfold indexAddrA at h
  split at h
  · rename_i len e own t0 ks l hu hL
    obtain ⟨n, hn, h⟩ := opt_eval h
    split at h
    · rename_i hc
      obtain ⟨hse, rfl, hk0⟩ := hc
      obtain ⟨hb, h⟩ := ite_some h
      simp only [Bool.and_eq_true, decide_eq_true_eq] at hb
      obtain ⟨b1, b2, b3⟩ := hb
      obtain ⟨rfl, rfl⟩ := pu_eval h
      refine opOk_pure fun ν w a he hr => ?_
      obtain ⟨a0, ea⟩ := lst_at hr hL hk0 b3
      have e0 : a.eval x = .pointer (some a0) := by
        rw [he x (by rw [hx]; rfl), hx]
        simp only [V.den, ea, Option.getD_some, Nat.zero_mul, Nat.zero_add]
        congr 2
      obtain ⟨k, ek⟩ : ∃ k, a.eval ix = .int k n := by
        unfold numV at hn
        split at hn
        · rename_i k m hix; cases hn; exact ⟨k, by rw [he ix (by rw [hix]; rfl), hix]; rfl⟩
        · rename_i k m hix; cases hn; exact ⟨k, by rw [he ix (by rw [hix]; rfl), hix]; rfl⟩
        · cases hn
      unfold execOp
      simp only [hop, e0, ek, Instr.indexAt, asIntOf, Instr.sureAddr, Sem.run_bind, Sem.run_pure, Result.andThen_ok, run_underlying hu]
      simp [b1, b2, run_sizeOf hse, V.den, ea]
    · cases h
  · cases h
/-- (of a configuration whose list of types has this number) slices may reach as far as their rows do; what is added out of the same rows is added in place -/
def growK : Nat := 999998
def sliceG (P : Program) (L : Look) (t : TypeId) (i sz len : Nat) (lo hi : Option V) : R :=
  match P.underlying t, L i with
  | some (.slice e), some (.lst _ _ ks l) => opt (bndV 0 lo) fun a => opt (bndV (len : Int) hi) fun b => if sizeB P e = some sz ∧ sz = ks.length then
      .ite none (decide (0 ≤ a) && (decide (a ≤ b) && decide (b ≤ (l.length : Int)))) (pu (.sub i sz a.toNat (b.toNat - a.toNat))) .fail else .fail
  | _, _ => .fail
theorem sub_den0 {ν : Env} {i sz len : Nat} : V.den ν (.sub i sz 0 len) = .slice (ν i).core.at_ len (ν i).core.cap := by
  simp only [V.den, Nat.zero_mul, Nat.sub_zero]
  congr 1
  cases (ν i).core.at_ with
  | none => rfl
  | some a => simp [Addr.add]
theorem sliceG_ok {t : TypeId} {x : Operand} {lo hi : Option Operand} {i sz len : Nat} (hop : o.op = .slice t x lo hi none) (hx : ρ x = .sub i sz 0 len) (h : (sliceG C.P L t i sz len (lo.map ρ) (hi.map ρ)).eval = some (v, u)) : OpOk C.P o ρ L nx v u := by
  unfold sliceG at h
  split at h
  · rename_i e own t0 ks l hu hL
    obtain ⟨n, hn, h⟩ := opt_eval h
    obtain ⟨m, hm, h⟩ := opt_eval h
    split at h
    · rename_i hcond
      obtain ⟨c1, c2⟩ := hcond
      obtain ⟨hb, h⟩ := ite_some h
      simp only [Bool.and_eq_true, decide_eq_true_eq] at hb
      obtain ⟨b1, b2, b3⟩ := hb
      obtain ⟨rfl, rfl⟩ := pu_eval h
      refine opOk_pure fun ν w a he hr => ?_
      obtain ⟨r1, r2⟩ := lst_reads (hr.den i _ hL)
      have e0 : a.eval x = .slice (ν i).core.at_ len (ν i).core.cap := by
        rw [he x (by rw [hx]; rfl), hx]; exact sub_den0
      have fin : V.den ν (V.sub i sz n.toNat (m.toNat - n.toNat)) = .slice (if (ν i).core.cap = n.toNat then (ν i).core.at_ else (ν i).core.at_.map (·.add (n.toNat * sz))) (m.toNat - n.toNat) ((ν i).core.cap - n.toNat) := by
        simp only [V.den]
        congr 1
        split
        · cases (ν i).core.at_ <;> rfl
        · rfl
      rw [fin]
      have k1 : n ≤ m.toNat := by omega
      have k2 : m ≤ (ν i).core.cap := by omega
      have k3 : 0 ≤ m := by omega
      rcases bnd_eval he hn with ⟨rfl, rfl⟩ | ⟨xl, kl, rfl, el⟩ <;> rcases bnd_eval he hm with ⟨rfl, rfl⟩ | ⟨xh, kh, rfl, eh⟩
      · unfold execOp
        simp [hop, e0, Instr.sliceAt, Instr.slice, Instr.sliceBounds, run_underlying hu, run_sizeOf c1]
      · unfold execOp
        simp [hop, e0, eh, Instr.sliceAt, Instr.slice, Instr.sliceBounds, Instr.sliceBound, asIntOf, run_underlying hu, run_sizeOf c1, k2, k3]
      · unfold execOp
        simp [hop, e0, el, Instr.sliceAt, Instr.slice, Instr.sliceBounds, Instr.sliceBound, asIntOf, run_underlying hu, run_sizeOf c1, b1, b2]
      · unfold execOp
        have k4 : n ≤ ((m.toNat : Nat) : Int) := k1
        have k5 : ((m.toNat : Nat) : Int) = m := by omega
        simp [hop, e0, el, eh, Instr.sliceAt, Instr.slice, Instr.sliceBounds, Instr.sliceBound, asIntOf, run_underlying hu, run_sizeOf c1, b1, b2, k2, k3, k5]
    · cases h
  · cases h
/-- the front of a slice of told cells -/
def sliceL (P : Program) (t : TypeId) (i off len cap : Nat) (hi : V) : R :=
  match P.underlying t with
  | some (.slice e) => opt (numV hi) fun b => opt (sizeB P e) fun _ => .ite none (decide (0 ≤ b) && decide (b ≤ (cap : Int))) (pu (.sl i off b.toNat cap)) .fail
  | _ => .fail
theorem sliceL_ok {t : TypeId} {x hi : Operand} {i off len cap : Nat} (hop : o.op = .slice t x none (some hi) none) (hx : ρ x = .sl i off len cap) (h : (sliceL C.P t i off len cap (ρ hi)).eval = some (v, u)) : OpOk C.P o ρ L nx v u := by
  unfold sliceL at h
  split at h
  · rename_i e hu
    obtain ⟨m, hm, h⟩ := opt_eval h
    obtain ⟨sz, c1, h⟩ := opt_eval h
    obtain ⟨hb, h⟩ := ite_some h
    simp only [Bool.and_eq_true, decide_eq_true_eq] at hb
    obtain ⟨b1, b2⟩ := hb
    obtain ⟨rfl, rfl⟩ := pu_eval h
    refine opOk_pure fun ν w a he hr => ?_
    have e0 : a.eval x = .slice (some ⟨(ν i).core.blk, (ν i).core.off + off, none⟩) len cap := by
      rw [he x (by rw [hx]; rfl), hx]; rfl
    have fin : V.den ν (V.sl i off m.toNat cap) = .slice (some ⟨(ν i).core.blk, (ν i).core.off + off, none⟩) m.toNat cap := rfl
    rw [fin]
    obtain ⟨kh, eh⟩ := num_eval he hm
    unfold execOp
    simp [hop, e0, eh, Instr.sliceAt, Instr.slice, Instr.sliceBounds, Instr.sliceBound, asIntOf, run_underlying hu, run_sizeOf c1, b1, b2, Addr.add]
  · cases h
/-- a slice with an end of its own: it is not looked at -/
def slice3 (P : Program) (L : Look) (nx : Nat) (t : TypeId) (i sz len : Nat) (lo hi mx : V) : R :=
  match P.underlying t, L i with
  | some (.slice e), some (.lst _ _ ks l) => opt (numV lo) fun a => opt (numV hi) fun b => opt (numV mx) fun c => if sizeB P e = some sz ∧ sz = ks.length then
      .ite none (decide (0 ≤ a) && (decide (a ≤ b) && (decide (b ≤ c) && decide (c ≤ (l.length : Int))))) (.ret (.sub nx sz 0 (b.toNat - a.toNat), [(nx, .dead)])) .fail else .fail
  | _, _ => .fail
theorem slice3_ok {t : TypeId} {x lo hi mx : Operand} {i sz len : Nat} (hop : o.op = .slice t x (some lo) (some hi) (some mx)) (hx : ρ x = .sub i sz 0 len) (h : (slice3 C.P L nx t i sz len (ρ lo) (ρ hi) (ρ mx)).eval = some (v, u)) : OpOk C.P o ρ L nx v u := by
  unfold slice3 at h
  split at h
  · rename_i e own t0 ks l hu hL
    obtain ⟨n, hn, h⟩ := opt_eval h
    obtain ⟨m, hm, h⟩ := opt_eval h
    obtain ⟨q, hq, h⟩ := opt_eval h
    split at h
    · rename_i hcond
      obtain ⟨c1, c2⟩ := hcond
      obtain ⟨hb, h⟩ := ite_some h
      simp only [Bool.and_eq_true, decide_eq_true_eq] at hb
      obtain ⟨b1, b2, b3, b4⟩ := hb
      simp only [T.eval, Option.some.injEq, Prod.mk.injEq] at h
      obtain ⟨rfl, rfl⟩ := h
      intro ν a w K Q he hok hL' hr hk
      obtain ⟨r1, r2⟩ := lst_reads (hr.den i _ hL)
      have e0 : a.eval x = .slice (ν i).core.at_ len (ν i).core.cap := by
        rw [he x (by rw [hx]; rfl), hx]; exact sub_den0
      obtain ⟨kl, el⟩ := num_eval he hn
      obtain ⟨kh, eh⟩ := num_eval he hm
      obtain ⟨km, em⟩ := num_eval he hq
      have hbl : Below w.heap.size w w := Below.refl _ _
      obtain ⟨ν', e1, hx', hrel, hpr⟩ := newAny (b := .dead) (σ := ⟨⟨0, 0, q.toNat - n.toNat, if q.toNat = n.toNat then (ν i).core.at_ else (ν i).core.at_.map (·.add (n.toNat * sz)), false⟩, fun _ => False⟩) rfl hL' hr hbl (by intro k hk'; exact hk'.elim) (fun ν' _ => fun k hk' => hk')
      have fin := hk ν' w hx' hrel hpr
      have e2 : V.den ν' (.sub nx sz 0 (m.toNat - n.toNat)) = .slice (if q.toNat = n.toNat then (ν i).core.at_ else (ν i).core.at_.map (·.add (n.toNat * sz))) (m.toNat - n.toNat) (q.toNat - n.toNat) := by
        rw [sub_den0, e1]
      rw [e2] at fin
      have hrun : (execOp a.eval o).run C.P w = .ok (.value (.slice (if q.toNat = n.toNat then (ν i).core.at_ else (ν i).core.at_.map (·.add (n.toNat * sz))) (m.toNat - n.toNat) (q.toNat - n.toNat))) w := by
        unfold execOp
        have k2 : q ≤ (ν i).core.cap := by omega
        have k3 : 0 ≤ q := by omega
        have k4 : 0 ≤ m := by omega
        have k5 : ((m.toNat : Nat) : Int) = m := by omega
        have k6 : ((q.toNat : Nat) : Int) = q := by omega
        simp [hop, e0, el, eh, em, Instr.sliceAt, Instr.slice, Instr.sliceBounds, Instr.sliceBound, asIntOf, run_underlying hu, run_sizeOf c1, b1, b2, b3, k2, k3, k4, k5, k6]
      unfold Oper.wp
      rw [hrun]
      exact fin
    · cases h
  · cases h
/-- rows written over, from row q on -/
theorem wrote_rows {ν : Env} {i : Nat} {t0 : TypeId} {ks : List K} {l : List (Row ks)} {w : World} (d : (Blk.lst true t0 ks l).den ν (ν i) w) {g of : Nat} {cur : Array Value} (ha : (ν i).core.at_ = some ⟨g, of, none⟩) (hg : w.heap[g]? = some (.cells cur t0 (0, 0)))
    (hle : l.length ≤ (ν i).core.cap) (hmax : (ν i).core.cap ≤ maxLen) (hcs : of + (ν i).core.cap * ks.length ≤ cur.size) (htake : (cur.toList.drop of).take (l.length * ks.length) = rowsV ks l) {q : Nat} {x : List (Row ks)} (hq : q + x.length ≤ l.length) :
    (Blk.lst true t0 ks (l.take q ++ x ++ l.drop (q + x.length))).den ν (ν i) (w.setRow g (cur.toList.take (of + q * ks.length) ++ rowsV ks x ++ cur.toList.drop (of + q * ks.length + (rowsV ks x).length)).toArray) ∧
    Prog w (w.setRow g (cur.toList.take (of + q * ks.length) ++ rowsV ks x ++ cur.toList.drop (of + q * ks.length + (rowsV ks x).length)).toArray) (ν i).fp := by
  obtain ⟨d1, d2⟩ := d
  have hxl : (rowsV ks x).length = x.length * ks.length := rowsV_length _
  have hroom : (q + x.length) * ks.length ≤ l.length * ks.length := Nat.mul_le_mul_right _ hq
  rw [Nat.add_mul] at hroom
  have hcap : of + l.length * ks.length ≤ cur.size := by have := Nat.mul_le_mul_right ks.length hle; omega
  have hll : (l.take q ++ x ++ l.drop (q + x.length)).length = l.length := by
    simp only [List.length_append, List.length_take, List.length_drop]; omega
  refine ⟨⟨⟨by rw [rowsV_length], .inr ⟨g, of, (ν i).core.cap, _, by rw [ha], Nat.zero_le _, setRow_heap w g cur _ t0 (0, 0) hg, by rw [hll]; exact hle, hmax, ?_, ?_⟩⟩, d2⟩,
    rfl, rfl, rfl, by simp, fun k _ hk' => setRow_other w g k _ fun e => hk' ((d2 k).2 ⟨_, ha, e⟩)⟩
  · simp only [List.size_toArray, List.length_append, List.length_take, List.length_drop, Array.length_toList]
    omega
  · have hcl2 : cur.toList.length = cur.size := Array.length_toList
    rw [hll, splice_drop _ _ _ _ (by omega), rowsV_append, rowsV_append, rowsV_take, rowsV_drop, ← htake, hxl]
    generalize hdr : cur.toList.drop of = rest
    have hrl : l.length * ks.length ≤ rest.length := by rw [← hdr, List.length_drop]; omega
    rw [List.take_take, Nat.min_eq_left (by omega), Nat.add_mul]
    have hA : (rest.take (q * ks.length) ++ rowsV ks x).length = q * ks.length + x.length * ks.length := by
      simp only [List.length_append, List.length_take, hxl]; omega
    rw [List.take_append, hA, List.take_of_length_le (by rw [hA]; omega), List.drop_take]
/-- what is added out of the same rows, in place -/
def appendI (P : Program) (L : Look) (t : TypeId) (i sz len off n : Nat) : R :=
  match P.underlying t, L i with
  | some (.slice e), some (.lst true e' ks l) => opt (P.info? e) fun ie => if e' = e ∧ sz = ks.length ∧ ie.size = ks.length ∧ 0 < ks.length then
      .ite none (decide (len + n ≤ l.length) && decide (off + n ≤ l.length)) (.ret (.sub i sz 0 (len + n), [(i, .lst true e' ks (l.take len ++ (l.drop off).take n ++ l.drop (len + ((l.drop off).take n).length)))])) .fail else .fail
  | _, _ => .fail
theorem appendI_ok {c : Call} {s x : Operand} {t : TypeId} {i sz len off n : Nat} (hop : o.op = .call c) (hc : c.callee = .builtin .append) (hargs : c.args.toList = [s, x]) (hts : c.argTypes.toList = [t, t]) (hs : ρ s = .sub i sz 0 len) (hx : ρ x = .sub i sz off n)
    (h : (appendI C.P L t i sz len off n).eval = some (v, u)) : OpOk C.P o ρ L nx v u := by
  have args : ∀ a : Act, c.args.map a.eval = #[a.eval s, a.eval x] := fun a => by
    apply Array.ext'
    simp [hargs]
  have hts' : c.argTypes = #[t, t] := by apply Array.ext'; simpa using hts
  unfold appendI at h
  split at h
  · rename_i e e' ks l hu hL
    obtain ⟨ie, hie, h'⟩ := opt_eval h
    clear h
    split at h'
    · rename_i hcond
      obtain ⟨rfl, rfl, c1, c2⟩ := hcond
      obtain ⟨hb, h⟩ := ite_some h'
      simp only [Bool.and_eq_true, decide_eq_true_eq] at hb
      simp only [T.eval, Option.some.injEq, Prod.mk.injEq] at h
      obtain ⟨rfl, rfl⟩ := h
      obtain ⟨hb1, hb2⟩ := hb
      intro ν a w K Q he hok hL' hr hk
      have hxl : ((l.drop off).take n).length = n := by rw [List.length_take, List.length_drop]; omega
      have run : (execOp a.eval o).run C.P w = ((Builtin.append_ #[t, t] o.type #[a.eval s, a.eval x]).run C.P w).andThen fun v w' => .ok (.value v) w' := by
        unfold execOp
        simp only [hop, resolve, hc, invoke, builtin, Sem.run_bind, Sem.run_pure, Result.andThen_ok, args, hts']
      have es : a.eval s = .slice (ν i).core.at_ len (ν i).core.cap := by
        rw [he s (by rw [hs]; rfl), hs]; exact sub_den0
      obtain ⟨hj, hnews⟩ := newsOf_ok hr (x := ρ x) (ks := ks) (r := (l.drop off).take n) (b := true) (by rw [hx]; simp [newsOf, hL, hb2]) rfl
      have ex : a.eval x = (ρ x).den ν := he x hj
      have d := hr.den i _ hL
      have dd := d
      obtain ⟨d1, d2⟩ := d
      cases ea : (ν i).core.at_ with
      | none =>
        have hc0 := lst_none dd ea
        have hl0 : l.length ≤ (ν i).core.cap := (lst_reads dd).2
        have hln : l = [] := List.eq_nil_of_length_eq_zero (by omega)
        have hn0 : n = 0 := by omega
        have hlen0 : len = 0 := by omega
        subst hln hn0 hlen0
        have ex0 : a.eval x = .slice none 0 0 := by
          rw [ex, hx]; simp only [V.den, ea, Option.map_none, hc0, Nat.zero_sub]
        rw [ea, hc0] at es
        have hr1 : (Builtin.append_ #[t, t] o.type #[a.eval s, a.eval x]).run C.P w = .ok (.slice none 0 0) w := by
          rw [es, ex0]; exact append_none (P := C.P) w 0 t o.type e' ie ks.length hu hie _ 0 [] (ownsB_nil w 0 e' ks.length)
        obtain ⟨u1, u2, u3⟩ := updBlk (nx := nx) (b' := .lst true e' ks ([] : List (Row ks))) hL' hr hL rfl ⟨rfl, rfl, rfl, Nat.le_refl _, fun _ _ _ => rfl⟩ dd
        have fin := hk ν w (by simpa using u1) (by simpa using u2) (by simpa using u3)
        have e2 : V.den ν (V.sub i ks.length 0 (0 + 0)) = .slice none 0 0 := by rw [sub_den0, ea, hc0]
        rw [e2] at fin
        unfold Oper.wp
        rw [run, hr1]
        exact fin
      | some a0 =>
        by_cases hl0 : 0 < l.length
        · obtain ⟨g, of, cur, ha, _, hg, hle, hmax, hcs, htake⟩ := owned_cells d1 hl0
          rcases hnews with ⟨hz, hz2⟩ | ⟨b0, cb, hz, hz2⟩
          · rw [hx] at hz
            simp only [V.den, ea, Option.map_some] at hz
            cases hz
          · rw [hxl] at hz
            have hfit : of + len * ie.size + (rowsV ks ((l.drop off).take n)).length ≤ cur.size := by
              rw [rowsV_length, hxl, c1]
              have h1 := Nat.mul_le_mul_right ks.length (show len + n ≤ (ν i).core.cap by omega)
              rw [Nat.add_mul] at h1
              omega
            have hr1 := append_room (P := C.P) w t o.type e' ie hu hie g of len (ν i).core.cap cur hg b0 n cb (rowsV ks ((l.drop off).take n)) (by rw [rowsV_length, hxl, c1]) hz2 (row_one _) (by omega) hfit
            obtain ⟨wd, wp⟩ := wrote_rows dd ha hg hle hmax hcs htake (q := len) (x := (l.drop off).take n) (by rw [hxl]; exact hb1)
            obtain ⟨u1, u2, u3⟩ := updBlk (nx := nx) hL' hr hL rfl wp wd
            have fin := hk ν _ u1 u2 u3
            rw [sub_den0] at fin
            unfold Oper.wp
            rw [run, es, ex, hz, ha]
            rw [c1] at hr1
            rw [hr1]
            rw [ha] at fin
            exact fin
        · have hln : l = [] := List.eq_nil_of_length_eq_zero (by omega)
          have hn0 : n = 0 := by omega
          have hlen0 : len = 0 := by omega
          subst hln hn0 hlen0
          rcases hnews with ⟨hz, _⟩ | ⟨b0, cb, hz, _⟩
          · rw [hx] at hz
            simp only [V.den, ea, Option.map_some] at hz
            cases hz
          · rw [hxl] at hz
            have hr1 : (Builtin.append_ #[t, t] o.type #[a.eval s, a.eval x]).run C.P w = .ok (.slice (some a0) 0 (ν i).core.cap) w := by
              rw [es, ex, hz, ea]
              simp [Builtin.append_, run_underlying hu, sizeOf, typeInfo, hie, Builtin.lenOf, Builtin.firstCells, loadCells, loadCellsFrom, storeCells]
            obtain ⟨u1, u2, u3⟩ := updBlk (nx := nx) (b' := .lst true e' ks ([] : List (Row ks))) hL' hr hL rfl ⟨rfl, rfl, rfl, Nat.le_refl _, fun _ _ _ => rfl⟩ dd
            have fin := hk ν w (by simpa using u1) (by simpa using u2) (by simpa using u3)
            have e2 : V.den ν (V.sub i ks.length 0 (0 + 0)) = .slice (some a0) 0 (ν i).core.cap := by rw [sub_den0, ea]
            rw [e2] at fin
            unfold Oper.wp
            rw [run, hr1]
            exact fin
    · cases h'
  · cases h
/-- rows wiped -/
def clearP (P : Program) (L : Look) (t : TypeId) (i sz off n : Nat) : R :=
  match P.underlying t, L i with
  | some (.slice e), some (.lst true e' ks l) => opt ((P.info? e).bind (·.zero)) fun z => opt (Row.of (fun _ => none) ks (z.cells.toList.map ofCell)) fun zr => if e' = e ∧ sz = ks.length ∧ 0 < ks.length ∧ z.cells.size = ks.length then
      .ite none (decide (off + n ≤ l.length)) (.ret (.tup [], [(i, .lst true e' ks (l.take off ++ List.replicate n zr ++ l.drop (off + (List.replicate n zr).length)))])) .fail else .fail
  | _, _ => .fail
theorem clearP_ok {c : Call} {x : Operand} {t : TypeId} {i sz off n : Nat} (hop : o.op = .call c) (hc : c.callee = .builtin .clear) (hargs : c.args.toList = [x]) (hts : c.argTypes[0]? = some t) (hx : ρ x = .sub i sz off n)
    (h : (clearP C.P L t i sz off n).eval = some (v, u)) : OpOk C.P o ρ L nx v u := by
  have args : ∀ a : Act, c.args.map a.eval = #[a.eval x] := fun a => by
    apply Array.ext'
    simp [hargs]
  unfold clearP at h
  split at h
  · rename_i e e' ks l hu hL
    obtain ⟨z, hz, h'⟩ := opt_eval h
    obtain ⟨zr, hzr, h''⟩ := opt_eval h'
    clear h h'
    split at h''
    · rename_i hcond
      obtain ⟨rfl, rfl, c2, c3⟩ := hcond
      obtain ⟨hb, h⟩ := ite_some h''
      simp only [decide_eq_true_eq] at hb
      simp only [T.eval, Option.some.injEq, Prod.mk.injEq] at h
      obtain ⟨rfl, rfl⟩ := h
      intro ν a w K Q he hok hL' hr hk
      have ex : a.eval x = .slice ((ν i).core.at_.map fun a => if (ν i).core.cap = off then a else a.add (off * ks.length)) n ((ν i).core.cap - off) := by
        rw [he x (by rw [hx]; rfl), hx]; rfl
      have dd := hr.den i _ hL
      have run : (execOp a.eval o).run C.P w = ((Builtin.clear_ c.argTypes o.type #[a.eval x]).run C.P w).andThen fun v w' => .ok (.value v) w' := by
        unfold execOp
        simp only [hop, resolve, hc, invoke, builtin, Sem.run_bind, Sem.run_pure, Result.andThen_ok, args]
      by_cases hn : n = 0
      · subst hn
        have hr1 : (Builtin.clear_ c.argTypes o.type #[a.eval x]).run C.P w = .ok (.tuple #[]) w := by
          rw [ex]
          cases (ν i).core.at_ <;> simp [Builtin.clear_, hts, run_underlying hu]
        have e0 : l.take off ++ List.replicate 0 zr ++ l.drop (off + (List.replicate 0 zr).length) = l := by simp
        obtain ⟨u1, u2, u3⟩ := updBlk (nx := nx) (b' := .lst true e' ks (l.take off ++ List.replicate 0 zr ++ l.drop (off + (List.replicate 0 zr).length))) hL' hr hL rfl ⟨rfl, rfl, rfl, Nat.le_refl _, fun _ _ _ => rfl⟩ (by rw [e0]; exact dd)
        have fin := hk ν w u1 u2 u3
        unfold Oper.wp
        rw [run, hr1]
        exact fin
      · obtain ⟨g, of, cur, ha, _, hg, hle, hmax, hcs, htake⟩ := owned_cells dd.1 (by omega)
        have hxl : (List.replicate n zr).length = n := List.length_replicate
        obtain ⟨wd, wp⟩ := wrote_rows dd ha hg hle hmax hcs htake (q := off) (x := List.replicate n zr) (by rw [hxl]; exact hb)
        obtain ⟨u1, u2, u3⟩ := updBlk (nx := nx) hL' hr hL rfl wp wd
        have fin := hk ν _ u1 u2 u3
        have hoff : ¬ (ν i).core.cap = off := by omega
        have hzc : z.cells.toList = (Row.cells ks zr).map S.den := by
          have := Row.of_den (ν := ν) (w := w) (L := fun _ => none) ⟨fun i b h => (by cases h), fun i j bi bj _ h => (by cases h)⟩ hzr
          rw [← this, denL_map, List.map_map]
          conv => lhs; rw [← List.map_id z.cells.toList]
          apply List.map_congr_left
          intro y _
          exact (ofCell_den ν y).symm
        have hzero : (Builtin.zeroCells z.cells n).toList = rowsV ks (List.replicate n zr) := by
          have := made_rows hzc n
          unfold madeCells at this
          unfold Builtin.zeroCells
          rw [c3]
          rw [c3] at this
          exact this
        have hfit : of + off * ks.length + 0 + (rowsV ks (List.replicate n zr)).length ≤ cur.size := by
          rw [rowsV_length, hxl]
          have h1 := Nat.mul_le_mul_right ks.length (show off + n ≤ (ν i).core.cap by omega)
          rw [Nat.add_mul] at h1
          omega
        have hst := run_storeCells_at C.P g (of + off * ks.length) e' (rowsV ks (List.replicate n zr)) 0 cur w hg hfit (row_one _)
        simp only [Nat.add_zero] at hst
        have hr1 : (Builtin.clear_ c.argTypes o.type #[a.eval x]).run C.P w = .ok (.tuple #[]) (w.setRow g (cur.toList.take (of + off * ks.length) ++ rowsV ks (List.replicate n zr) ++ cur.toList.drop (of + off * ks.length + (rowsV ks (List.replicate n zr)).length)).toArray) := by
          rw [ex, ha]
          simp only [Option.map_some, if_neg hoff, addr_add]
          obtain ⟨n', rfl⟩ : ∃ n', n = n' + 1 := ⟨n - 1, by omega⟩
          simp [Builtin.clear_, hts, run_underlying hu, run_zeroValue hz, hzero, hst]
        unfold Oper.wp
        rw [run, hr1]
        exact fin
    · cases h''
  · cases h
/-- a literal without elements -/
def emptyP (P : Program) (nx : Nat) (t : TypeId) : R :=
  match P.underlying t with
  | some (.slice e) => opt (sizeB P e) fun n => opt (kindsOf P e) fun ks => if n = ks.length then .ret (.sub nx ks.length 0 0, [(nx, .lst true e ks [])]) else .fail
  | _ => .fail
theorem emptyP_ok {t : TypeId} {parts : Array (Nat × Operand)} (hop : o.op = .buildSlice t 0 parts) (hp : parts.toList = []) (h : (emptyP C.P nx t).eval = some (v, u)) : OpOk C.P o ρ L nx v u := by
  unfold emptyP at h
  split at h
  · rename_i e hu
    obtain ⟨n, hn, h'⟩ := opt_eval h
    obtain ⟨ks, hks, h⟩ := opt_eval h'
    clear h'
    split at h
    · rename_i hcond
      subst hcond
      simp only [T.eval, Option.some.injEq, Prod.mk.injEq] at h
      obtain ⟨rfl, rfl⟩ := h
      have hp' : parts = #[] := by apply Array.ext'; simpa using hp
      subst hp'
      intro ν a w K Q he hok hL' hr hk
      have hrun : (execOp a.eval o).run C.P w = .ok (.value (.slice (some ⟨w.heap.size, 0, none⟩) 0 0)) (w.alloc (.cells #[] e)) := by
        unfold execOp
        simp [hop, Instr.buildSlice, run_underlying hu, run_sizeOf hn, Instr.fill, newRow, run_newObj]
        congr 2
        apply Array.ext'
        simp
      have hbl : Below w.heap.size w (w.alloc (.cells #[] e)) := ⟨rfl, rfl, rfl, by simp, fun k hk => Below.heap_alloc w _ k hk⟩
      obtain ⟨ν', e1, hx', hrel, hpr⟩ := newAny (b := .lst true e ks []) (σ := ⟨⟨0, 0, 0, some ⟨w.heap.size, 0, none⟩, false⟩, fun k => ∃ a, (some ⟨w.heap.size, 0, none⟩ : Option Addr) = some a ∧ k = a.block⟩) rfl hL' hr hbl (by
        rintro k ⟨a', ha', rfl⟩
        cases ha'; exact Nat.le_refl _) (fun ν' _ => ⟨⟨by rw [rowsV_length], .inr ⟨w.heap.size, 0, 0, #[], rfl, Nat.zero_le _, heap_alloc_new w _, Nat.le_refl _, by simp [maxLen], by simp, by simp [rowsV]⟩⟩, fun k => Iff.rfl⟩)
      have fin := hk ν' _ hx' hrel hpr
      have e2 : V.den ν' (V.sub nx ks.length 0 0) = .slice (some ⟨w.heap.size, 0, none⟩) 0 0 := by rw [sub_den0, e1]
      rw [e2] at fin
      unfold Oper.wp
      rw [hrun]
      exact fin
    · cases h
  · cases h
/-- is a slice nil? -/
def nilCmp (P : Program) (L : Look) (op : BinOp) (t : TypeId) (x y : V) : Option R :=
  match P.underlying t, y with
  | some (.slice _), .nilSl => match x with
    | .nilSl => (negB op true).map fun c => pu (if c then .tt else .ff)
    | .raw (.slice none _ _) => (negB op true).map fun c => pu (if c then .tt else .ff)
    | .raw (.slice (some _) _ _) => (negB op false).map fun c => pu (if c then .tt else .ff)
    | .sub i _ 0 _ => match L i with
      | some (.lst _ _ _ l) => (negB op false).map fun c => .ite none (decide (0 < l.length)) (pu (if c then .tt else .ff)) .fail
      | _ => none
    | _ => none
  | _, _ => none
theorem nilCmp_ok {op : BinOp} {t yt : TypeId} {x y : Operand} {r : R} (hop : o.op = .binOp op t x y yt) (hr : nilCmp C.P L op t (ρ x) (ρ y) = some r) (h : r.eval = some (v, u)) : OpOk C.P o ρ L nx v u := by
  unfold nilCmp at hr
  split at hr
  · rename_i e hu hy
    have eqs : ∀ (a : Option Addr) (n c : Nat) (w : World), (Op.equal t (.slice a n c) (.slice none 0 0)).run C.P w = .ok a.isNone w := by
      intro a n c w
      have gen : ∀ d, (Op.equalIn (d + 1) t (.slice a n c) (.slice none 0 0)).run C.P w = .ok a.isNone w := by
        intro d
        cases a <;> simp [Op.equalIn, run_underlying hu]
      exact gen 9999
    have go : ∀ {a : Env → Option Addr} {n c : Env → Nat} {b b' : Bool}, (∀ ν, (ρ x).den ν = .slice (a ν) (n ν) (c ν)) → (ρ x).isJunk = false → negB op b = some b' → (∀ ν w, Rel ν L w → (a ν).isNone = b) → OpOk C.P o ρ L nx (if b' then .tt else .ff) [] := by
      intro a n c b b' hx j hn hb
      refine bin_pure hop fun ν w A he hrel => ?_
      rw [he x j, hx, he y (by rw [hy]; rfl), hy]
      refine ⟨?_, ?_⟩
      · unfold eqGuard
        cases op <;> simp [V.den]
      · have hq := eqs (a ν) (n ν) (c ν) w
        rw [hb ν w hrel] at hq
        rcases negB_some hn with ⟨rfl, rfl⟩ | ⟨rfl, rfl⟩
        · show (do pure (Value.bool (← Op.equal t _ (.slice none 0 0)))).run C.P w = _
          cases b' <;> simp [hq, V.den]
        · show (do pure (Value.bool (!(← Op.equal t _ (.slice none 0 0))))).run C.P w = _
          cases b <;> simp [hq, V.den]
    split at hr
    · rename_i hx
      obtain ⟨b', hb', rfl⟩ := Option.map_eq_some_iff.1 hr
      obtain ⟨rfl, rfl⟩ := pu_eval h
      exact go (a := fun _ => none) (n := fun _ => 0) (c := fun _ => 0) (fun ν => by rw [hx]; rfl) (by rw [hx]; rfl) hb' (fun _ _ _ => rfl)
    · rename_i n0 c0 hx
      obtain ⟨b', hb', rfl⟩ := Option.map_eq_some_iff.1 hr
      obtain ⟨rfl, rfl⟩ := pu_eval h
      exact go (a := fun _ => none) (n := fun _ => n0) (c := fun _ => c0) (fun ν => by rw [hx]; rfl) (by rw [hx]; rfl) hb' (fun _ _ _ => rfl)
    · rename_i a0 n0 c0 hx
      obtain ⟨b', hb', rfl⟩ := Option.map_eq_some_iff.1 hr
      obtain ⟨rfl, rfl⟩ := pu_eval h
      exact go (a := fun _ => some a0) (n := fun _ => n0) (c := fun _ => c0) (fun ν => by rw [hx]; rfl) (by rw [hx]; rfl) hb' (fun _ _ _ => rfl)
    · rename_i i sz len hx
      split at hr
      · rename_i own t0 ks l hL
        obtain ⟨b', hb', rfl⟩ := Option.map_eq_some_iff.1 hr
        obtain ⟨hl, h⟩ := ite_some h
        obtain ⟨rfl, rfl⟩ := pu_eval h
        have hl' : 0 < l.length := of_decide_eq_true hl
        refine go (a := fun ν => (ν i).core.at_) (n := fun _ => len) (c := fun ν => (ν i).core.cap) (fun ν => by rw [hx]; exact sub_den0) (by rw [hx]; rfl) hb' (fun ν w hrel => ?_)
        have d := hrel.den i _ hL
        have h2 := (lst_reads d).2
        cases ea : (ν i).core.at_ with
        | none => have := lst_none d ea; omega
        | some _ => rfl
      · cases hr
    · cases hr
  · cases hr
end arr
/-- (told by the type) an array of many plain cells -/
def bigArr (P : Program) (t : TypeId) : Option (Nat × TypeId) :=
  match P.underlying t with
  | some (.array n e) => if 50 ≤ n then some (n, e) else none
  | _ => none
/-- what an operation does with arrays, and with rows in place, if it has to do with them -/
def arrx (C : Cfg) (ρ : Operand → V) (L : Look) (nx : Nat) (o : Oper) : Option R :=
  match o.op with
  | .alloc t => match bigArr C.P t with
    | some (n, e) => some (allocA C.P nx t n e)
    | none => none
  | .indexAddr t x ix => match ρ x with
    | .pr i sz 0 0 => some (indexAddrA C.P L t i sz (ρ ix))
    | _ => none
  | .slice t x lo hi none => match ρ x with
    | .sub i sz 0 len => if C.E.contains growK then some (sliceG C.P L t i sz len (lo.map ρ) (hi.map ρ)) else none
    | .sl i off len cap => (match lo.map ρ, hi.map ρ with
      | none, some b => some (sliceL C.P t i off len cap b)
      | _, _ => none)
    | _ => none
  | .slice t x (some lo) (some hi) (some mx) => match ρ x with
    | .sub i sz 0 len => some (slice3 C.P L nx t i sz len (ρ lo) (ρ hi) (ρ mx))
    | _ => none
  | .buildSlice t 0 parts => match parts.toList with
    | [] => some (emptyP C.P nx t)
    | _ => none
  | .binOp op t x y _ => nilCmp C.P L op t (ρ x) (ρ y)
  | .call c => match c.callee with
    | .builtin .append => match c.args.toList, c.argTypes.toList with
      | [s, x], [t, t'] => (match ρ s, ρ x with
        | .sub i sz 0 len, .sub j sz' off n => if t' = t ∧ j = i ∧ sz' = sz ∧ C.E.contains growK = true then some (appendI C.P L t i sz len off n) else none
        | _, _ => none)
      | _, _ => none
    | .builtin .clear => match c.args.toList, c.argTypes[0]? with
      | [x], some t => (match ρ x with
        | .sub i sz off n => some (clearP C.P L t i sz off n)
        | _ => none)
      | _, _ => none
    | _ => none
  | _ => none
theorem arrx_ok {C : Cfg} {o : Oper} {ρ : Operand → V} {L : Look} {nx : Nat} {v : V} {u : Heap} {r : R} (hr : arrx C ρ L nx o = some r) (h : r.eval = some (v, u)) : OpOk C.P o ρ L nx v u := by
  unfold arrx at hr
  split at hr
  · rename_i hop
    split at hr
    · cases hr; exact allocA_ok hop h
    · cases hr
  · rename_i hop
    split at hr
    · rename_i hx; cases hr; exact indexAddrA_ok hop hx h
    · cases hr
  · rename_i hop
    split at hr
    · rename_i hx
      split at hr
      · cases hr; exact sliceG_ok hop hx h
      · cases hr
    · rename_i hx
      split at hr
      · rename_i hl hh
        cases hr
        obtain ⟨y, rfl, rfl⟩ := Option.map_eq_some_iff.1 hh
        have hl := Option.map_eq_none_iff.1 hl
        subst hl
        exact sliceL_ok hop hx h
      · cases hr
    · cases hr
  · rename_i hop
    split at hr
    · rename_i hx; cases hr; exact slice3_ok hop hx h
    · cases hr
  · rename_i hop
    split at hr
    · rename_i hp; cases hr; exact emptyP_ok hop hp h
    · cases hr
  · rename_i hop
    exact nilCmp_ok hop hr h
  · rename_i c hop
    split at hr
    · rename_i hc
      split at hr
      · rename_i hargs hts
        split at hr
        · rename_i hs hx
          split at hr
          · rename_i hcond
            obtain ⟨rfl, rfl, rfl, _⟩ := hcond
            cases hr; exact appendI_ok hop hc hargs hts hs hx h
          · cases hr
        · cases hr
      · cases hr
    · rename_i hc
      split at hr
      · rename_i hargs ht
        split at hr
        · rename_i hx; cases hr; exact clearP_ok hop hc hargs ht hx h
        · cases hr
      · cases hr
    · cases hr
  · cases hr
def objx (C : Cfg) (ρ : Operand → V) (L : Look) (nx : Nat) (o : Oper) : Option R :=
  match o.op with
  | .call c => match c.callee with
    | .value (.func f) => match C.G f with
      | some (.obj sp) => some (callO sp L nx (c.args.toList.map ρ))
      | some (.get t sp) => some (callG t sp L nx (c.args.toList.map ρ))
      | some (.see sp) => some (callS sp L nx (c.args.toList.map ρ))
      | _ => none
    | _ => none
  | _ => none
def opx (C : Cfg) (ρ : Operand → V) (L : Look) (nx : Nat) (o : Oper) : R :=
  match objx C ρ L nx o with
  | some r => r
  | none => match arrx C ρ L nx o with
    | some r => r
    | none => match boxx C ρ L nx o with
      | some r => r
      | none => match rowx C ρ L nx o with
        | some r => r
        | none => match fltx C (fun x => sv (ρ x)) nx o with
          | some r => r
          | none => opx0 C ρ L nx o
theorem opx_ok {C : Cfg} {o : Oper} {ρ : Operand → V} {L : Look} {nx : Nat} {v : V} {u : Heap} (hC : C.Ok) (hf : ∀ f, ρ (.func f) = .raw (.func (.func f) #[] #[])) (hg : good v u) (hb : ∀ t parts, o.op = .build t parts → ∀ p ∈ parts.toList, (ρ p.2).isJunk = false) (h : (opx C ρ L nx o).eval = some (v, u)) : OpOk C.P o ρ L nx v u := by
  unfold opx at h
  split at h
  · rename_i r hr
    unfold objx at hr
    split at hr
    · rename_i c hop
      split at hr
      · rename_i f hc
        split at hr
        · rename_i sp hsp
          cases hr
          exact callO_ok hop hc (hC.O f sp hsp) (hf f) h
        · rename_i t sp hsp
          cases hr
          exact callG_ok hop hc (hC.R f t sp hsp) h
        · rename_i sp hsp
          cases hr
          exact callS_ok hop hc (hC.S f sp hsp) h
        · cases hr
      · cases hr
    · cases hr
  · split at h
    · rename_i r hr; exact arrx_ok hr h
    · split at h
      · rename_i r hr; exact boxx_ok hr h
      · split at h
        · rename_i r hr; exact rowx_ok hr h
        · split at h
          · rename_i r hr; exact opOk_sv (fltx_ok (ρ := fun x => sv (ρ x)) hr h)
          · exact opx0_ok hC hf hg hb h
end Go.Eng
