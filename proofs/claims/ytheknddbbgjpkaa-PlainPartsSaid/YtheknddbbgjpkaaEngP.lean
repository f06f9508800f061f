/- The machine, a part between: what a call of a function with objects gives and takes. No program is named here. -/
import Derived.Test.YtheknddbbgjpkaaEngA
namespace Go.Eng
open Go.RowKit
set_option linter.unusedVariables false
set_option linter.unusedSimpArgs false
mutual
/-- a value with its truths read, its places kept -/
def detO (L : Look) : V → V
  | .b i => match truth L (.b i) with
    | some c => .s (.bool c)
    | none => .junk
  | .row _ _ _ _ _ => .junk
  | .orow _ _ _ => .junk
  | .may _ _ _ => .junk
  | .n k x => .s (.int k x)
  | .iface t v => .iface t (detO L v)
  | .agg l => .agg (detOL L l)
  | .tup l => .tup (detOL L l)
  | v => v
def detOL (L : Look) : List V → List V
  | [] => []
  | v :: r => detO L v :: detOL L r
end
mutual
theorem detO_den {ν : Env} {L : Look} {w : World} {p : Nat → Bool} (hr : Rel ν L w) : ∀ v : V, (detO L v).ok p = true → (detO L v).den ν = v.den ν
  | .b i, h => by
    cases ht : truth L (.b i) with
    | some c => simp only [detO, ht, V.den, S.den]; have := truth_den hr ht; simpa [V.den] using this.symm
    | none => simp [detO, ht, V.ok] at h
  | .ptr _ _, h => rfl
  | .sl _ _ _ _, h => rfl
  | .row _ _ _ _ _, h => by simp [detO, V.ok] at h
  | .orow _ _ _, h => by simp [detO, V.ok] at h
  | .pr _ _ _ _, h => rfl
  | .sub _ _ _ _, h => rfl
  | .may _ _ _, h => by simp [detO, V.ok] at h
  | .n _ _, _ => rfl
  | .iface t v, h => by
    simp only [detO, V.den, V.ok] at *
    rw [detO_den hr v h]
  | .agg l, h => by
    simp only [detO, V.den, V.ok] at *
    rw [detOL_den hr l h]
  | .tup l, h => by
    simp only [detO, V.den, V.ok] at *
    rw [detOL_den hr l h]
  | .s _, _ => rfl
  | .tt, _ => rfl
  | .ff, _ => rfl
  | .nilIface, _ => rfl
  | .nilPtr, _ => rfl
  | .nilSl, _ => rfl
  | .raw _, _ => rfl
  | .junk, _ => rfl
theorem detOL_den {ν : Env} {L : Look} {w : World} {p : Nat → Bool} (hr : Rel ν L w) : ∀ l : List V, okL p (detOL L l) = true → denL ν (detOL L l) = denL ν l
  | [], _ => rfl
  | v :: r, h => by
    simp only [detOL, okL, Bool.and_eq_true, denL] at *
    rw [detO_den hr v h.1, detOL_den hr r h.2]
end
theorem detO_junk {L : Look} {v : V} {p : Nat → Bool} (h : (detO L v).ok p = true) : v.isJunk = false := by
  cases v <;> first | rfl | (simp [detO, V.ok] at h; done)
def Blk.det (L : Look) : Blk → Blk
  | .cells t l => .cells t (detOL L l)
  | .ro t l => .ro t (detOL L l)
  | b => b
theorem Blk.det_owned {L : Look} (b : Blk) : (b.det L).owned = b.owned := by cases b <;> rfl
theorem Blk.det_den {ν : Env} {L : Look} {w w0 : World} {s : Slot} {p : Nat → Bool} (hr : Rel ν L w0) : ∀ b : Blk, (b.det L).ok p = true → b.den ν s w → (b.det L).den ν s w
  | .cells t l, h, ⟨h1, h2, h3⟩ => ⟨h1, h2, by rw [show denL ν (detOL L l) = denL ν l from detOL_den hr l h]; exact h3⟩
  | .ro t l, h, ⟨h1, h2, h3⟩ => ⟨h1, h2, by rw [show denL ν (detOL L l) = denL ν l from detOL_den hr l h]; exact h3⟩
  | .leaf _, _, h => h
  | .lst .., _, h => h
  | .dead, _, h => h
  | .bx .., _, h => h
mutual
def idsV : V → List Nat
  | .ptr i _ => [i]
  | .sl i _ _ _ => [i]
  | .pr i _ _ _ => [i]
  | .sub i _ _ _ => [i]
  | .iface _ v => idsV v
  | .agg l => idsL l
  | .tup l => idsL l
  | _ => []
def idsL : List V → List Nat
  | [] => []
  | v :: r => idsV v ++ idsL r
end
def Blk.ids : Blk → List Nat
  | .cells _ l => idsL l
  | .ro _ l => idsL l
  | .bx _ _ _ _ _ _ (some x) => [x.2]
  | _ => []
/-- the blocks that these numbers lead to, in the order in which they are found -/
def grab (L : Look) : Nat → List Nat → Heap → Heap
  | 0, _, acc => acc
  | _ + 1, [], acc => acc
  | n + 1, i :: q, acc => if inH acc i then grab L n q acc else match L i with
    | some b => grab L n (q ++ (b.det L).ids) (acc ++ [(i, b.det L)])
    | none => grab L n q acc
theorem grab_look {L : Look} : ∀ (n : Nat) (q : List Nat) (acc : Heap), (∀ i b', look acc i = some b' → ∃ b, L i = some b ∧ b' = b.det L) → ∀ i b', look (grab L n q acc) i = some b' → ∃ b, L i = some b ∧ b' = b.det L
  | 0, _, acc, h => h
  | _ + 1, [], acc, h => h
  | n + 1, i :: q, acc, h => by
    unfold grab
    split
    · exact grab_look n q acc h
    · split
      · rename_i b hb
        refine grab_look n _ _ fun j b' hj => ?_
        rw [look_append] at hj
        unfold over at hj
        cases e : look acc j with
        | some b2 => rw [e] at hj; simp only [Option.some.injEq] at hj; subst hj; exact h j _ e
        | none =>
          rw [e] at hj
          simp only [look] at hj
          by_cases q : (i == j) = true
          · simp only [q, if_true, Option.some.injEq] at hj
            have : i = j := by simpa using q
            subst this
            exact ⟨b, hb, hj.symm⟩
          · simp [q] at hj
      · exact grab_look n q acc h
/-- where a number stands in a row of numbers; what stands there -/
def posN : List Nat → Nat → Nat
  | [], _ => 0
  | k :: r, i => if Nat.beq k i then 0 else posN r i + 1
def nthN : List Nat → Nat → Nat
  | [], _ => 0
  | k :: _, 0 => k
  | _ :: r, n + 1 => nthN r n
def memN : List Nat → Nat → Bool
  | [], _ => false
  | k :: r, i => Nat.beq k i || memN r i
def nodupN : List Nat → Bool
  | [] => true
  | k :: r => !memN r k && nodupN r
theorem nth_pos : ∀ {l : List Nat} {i : Nat}, memN l i = true → nthN l (posN l i) = i ∧ posN l i < l.length
  | [], i, h => by cases h
  | k :: r, i, h => by
    unfold posN
    by_cases e : Nat.beq k i = true
    · rw [if_pos e]
      exact ⟨Nat.eq_of_beq_eq_true e, by simp⟩
    · rw [if_neg e]
      have hm : memN r i = true := by
        simp only [memN] at h
        cases q : Nat.beq k i
        · simpa [q] using h
        · exact absurd q e
      obtain ⟨h1, h2⟩ := nth_pos hm
      exact ⟨h1, by simp; omega⟩
theorem mem_nth : ∀ {l : List Nat} {n : Nat}, n < l.length → memN l (nthN l n) = true
  | k :: r, 0, _ => by simp [memN, nthN, Nat.beq_eq]
  | k :: r, n + 1, h => by
    simp only [memN, nthN, Bool.or_eq_true]
    exact .inr (mem_nth (by simpa using h))
theorem pos_nth : ∀ {l : List Nat} {n : Nat}, nodupN l = true → n < l.length → posN l (nthN l n) = n
  | k :: r, 0, _, _ => by simp [posN, nthN]
  | k :: r, n + 1, hd, h => by
    simp only [nodupN, Bool.and_eq_true, Bool.not_eq_true'] at hd
    have hn : n < r.length := by simpa using h
    have hm := mem_nth hn
    show (if Nat.beq k (nthN r n) then 0 else posN r (nthN r n) + 1) = n + 1
    rw [if_neg ?_, pos_nth hd.2 hn]
    intro e
    have := Nat.eq_of_beq_eq_true e
    subst this
    rw [hd.1] at hm; cases hm
def keysN (h : Heap) : List Nat := h.map (·.1)
theorem mem_keys {h : Heap} {i : Nat} : memN (keysN h) i = inH h i := by
  unfold inH
  induction h with
  | nil => rfl
  | cons x r ih =>
    obtain ⟨j, b⟩ := x
    simp only [keysN, List.map_cons, memN, look]
    by_cases e : (j == i) = true
    · have : j = i := by simpa using e
      subst this; simp [Nat.beq_eq]
    · have hb : Nat.beq j i = false := by
        cases q : Nat.beq j i
        · rfl
        · exact absurd (by simpa using Nat.eq_of_beq_eq_true q) e
      rw [if_neg e, hb, Bool.false_or]
      exact ih
theorem look_mem_nodup : ∀ {h : Heap}, nodupN (keysN h) = true → ∀ {i : Nat} {b : Blk}, (i, b) ∈ h → look h i = some b
  | (j, c) :: r, hd, i, b, hm => by
    simp only [keysN, List.map_cons, nodupN, Bool.and_eq_true, Bool.not_eq_true'] at hd
    simp only [look]
    rcases List.mem_cons.1 hm with e | e
    · cases e; simp
    · have h2 := look_mem_nodup (h := r) hd.2 e
      have hne : ¬ (j == i) = true := by
        intro q
        have : j = i := by simpa using q
        subst this
        have h3 := mem_keys (h := r) (i := j)
        unfold inH at h3
        rw [h2] at h3
        rw [show memN (keysN r) j = memN (List.map (fun x => x.1) r) j from rfl, hd.1] at h3
        cases h3
      rw [if_neg hne]; exact h2
/-- the blocks by 0, 1, .. -/
def numb (σ : Nat → Nat) : Nat → Heap → Heap
  | _, [] => []
  | n, (_, b) :: r => (n, b.ren σ) :: numb σ (n + 1) r
theorem numb_look {σ : Nat → Nat} : ∀ {h : Heap} {n j : Nat} {b : Blk}, look (numb σ n h) j = some b → ∃ m i b0, j = n + m ∧ m < h.length ∧ (i, b0) ∈ h ∧ nthN (keysN h) m = i ∧ b = b0.ren σ
  | [], n, j, b, e => by cases e
  | (i, b0) :: r, n, j, b, e => by
    simp only [numb, look] at e
    by_cases q : (n == j) = true
    · have : n = j := by simpa using q
      subst this
      simp only [q, if_true, Option.some.injEq] at e
      exact ⟨0, i, b0, rfl, by simp, List.mem_cons_self, rfl, e.symm⟩
    · rw [if_neg q] at e
      obtain ⟨m, i', b', h1, h2, h3, h4, h5⟩ := numb_look e
      exact ⟨m + 1, i', b', by omega, by simp; omega, List.mem_cons_of_mem _ h3, h4, h5⟩
theorem numb_some {σ : Nat → Nat} : ∀ {h : Heap} {n m : Nat}, m < h.length → ∃ b0, (nthN (keysN h) m, b0) ∈ h ∧ look (numb σ n h) (n + m) = some (b0.ren σ)
  | (i, b0) :: r, n, 0, _ => ⟨b0, by simp [keysN, nthN], by simp [numb, look]⟩
  | (i, b0) :: r, n, m + 1, hm => by
    obtain ⟨b1, h1, h2⟩ := numb_some (σ := σ) (h := r) (n := n + 1) (m := m) (by simpa using hm)
    refine ⟨b1, List.mem_cons_of_mem _ h1, ?_⟩
    simp only [numb, look]
    have hne : ¬ (n == n + (m + 1)) = true := by simp
    rw [if_neg hne, show n + (m + 1) = n + 1 + m by omega]
    exact h2
theorem numb_length {σ : Nat → Nat} : ∀ (h : Heap) (n : Nat), (numb σ n h).length = h.length
  | [], _ => rfl
  | (_, _) :: r, n => by simp [numb, numb_length r (n + 1)]
def sameKind : Blk → Blk → Bool
  | .cells .., .cells .. => true
  | .lst true _ _ _, .lst true _ _ _ => true
  | _, .dead => true
  | .bx .., .bx .. => true
  | _, _ => false
theorem Prog.weaken {w w' : World} {F G : Nat → Prop} (h : Prog w w' F) (hFG : ∀ k, F k → G k) : Prog w w' G := ⟨h.os, h.tape, h.output, h.size, fun k hk hn => h.block k hk fun f => hn (hFG k f)⟩
/-- numbers back: those that were given, and new ones -/
def backN (keys fr : List Nat) (nx : Nat) (j : Nat) : Nat := if Nat.blt j keys.length then nthN keys j else nx + posN fr j
def freshN (n : Nat) (h' : Heap) : List Nat := (keysN h').filter fun j => !Nat.blt j n
def deadN (frag h' : Heap) : List (Nat × Blk) := (frag.filter fun p => p.2.owned && !inH h' (posN (keysN frag) p.1)).map fun p => (p.1, .dead)
def backH (keys fr : List Nat) (nx : Nat) (h' : Heap) : Heap := h'.map fun p => (backN keys fr nx p.1, p.2.ren (backN keys fr nx))
def kindsO (h h' : Heap) : Bool := h'.all fun p => match look h p.1 with
  | some b => sameKind b p.2
  | none => true
/-- a call of a function with objects -/
def callO (sp : Obj) (L : Look) (nx : Nat) (args : List V) : R :=
  let as := detOL L args
  let frag := grab L 200 (idsL as) []
  let keys := keysN frag
  if (nodupN keys && okL (inH frag) as && frag.all fun p => p.2.ok (inH frag)) = true then
    (sp (renL (posN keys) as) (numb (posN keys) 0 frag)).strip.bind fun r =>
      let fr := freshN frag.length r.2
      if (outO (numb (posN keys) 0 frag) r.1 r.2 && kindsO (numb (posN keys) 0 frag) r.2 && nodupN (keysN r.2) && Nat.ble fr.length stride) = true then
        .ret (r.1.ren (backN keys fr nx), backH keys fr nx r.2 ++ deadN frag r.2)
      else .fail
  else .fail
theorem memN_filter {f : Nat → Bool} : ∀ {l : List Nat} {i : Nat}, memN (l.filter f) i = (memN l i && f i)
  | [], i => rfl
  | k :: r, i => by
    simp only [List.filter]
    by_cases e : Nat.beq k i = true
    · have : k = i := Nat.eq_of_beq_eq_true e
      subst this
      cases q : f k
      · simp only [memN]
        rw [memN_filter, q]; simp
      · simp [memN, q, Nat.beq_eq]
    · have e' : Nat.beq k i = false := by cases h : Nat.beq k i; rfl; exact absurd h e
      cases q : f k
      · simp only [memN, e', Bool.false_or]; rw [memN_filter]
      · simp only [memN, e', Bool.false_or]; rw [memN_filter]
theorem callO_ok {P : Program} {o : Oper} {ρ : Operand → V} {L : Look} {nx f : Nat} {sp : Obj} {c : Call} {v : V} {u : Heap} (hop : o.op = .call c) (hc : c.callee = .value (.func f))
    (hsp : ObjOk P f sp) (hρ : ρ (.func f) = .raw (.func (.func f) #[] #[])) (h : (callO sp L nx (c.args.toList.map ρ)).eval = some (v, u)) : OpOk P o ρ L nx v u := by
  intro ν a w K Q he hoka hL hr hk
  obtain ⟨fn, hf, hb, hnm⟩ := hsp.body
  unfold callO at h
  simp only at h
  generalize has : detOL L (c.args.toList.map ρ) = as at h
  generalize hfr : grab L 200 (idsL as) [] = frag at h
  have hfl : ∀ i b', look frag i = some b' → ∃ b, L i = some b ∧ b' = b.det L := by
    rw [← hfr]; exact grab_look _ _ _ fun i b' e => by cases e
  split at h
  · rename_i hg
    simp only [Bool.and_eq_true] at hg
    obtain ⟨⟨hnd, hoa⟩, hof⟩ := hg
    obtain ⟨⟨v0, h'⟩, h1, h⟩ := T.eval_bind_some h
    rw [T.eval_strip] at h1
    simp only at h
    split at h
    · rename_i hq
      simp only [Bool.and_eq_true] at hq
      obtain ⟨⟨⟨hout, hkind⟩, hnd'⟩, hst⟩ := hq
      simp only [T.eval, Option.some.injEq, Prod.mk.injEq] at h
      obtain ⟨hv, hu⟩ := h
      generalize hkeys : keysN frag = keys at *
      have hklen : keys.length = frag.length := by rw [← hkeys]; simp [keysN]
      generalize hh : numb (posN keys) 0 frag = H at *
      generalize hfs : freshN frag.length h' = fs at *
      have hHlen : H.length = frag.length := by rw [← hh]; exact numb_length _ _
      -- the canonical environment
      let νc : Env := fun j => ν (nthN keys j)
      have hmem : ∀ i, inH frag i = true → memN keys i = true := fun i hi => by rw [← hkeys, mem_keys]; exact hi
      have hcore1 : ∀ i, inH frag i = true → (νc (posN keys i)).core = (ν i).core := fun i hi => by
        show (ν (nthN keys (posN keys i))).core = _
        rw [(nth_pos (hmem i hi)).1]
      have hHlook : ∀ j b, look H j = some b → ∃ b0, look frag (nthN keys j) = some b0 ∧ b = b0.ren (posN keys) ∧ j < frag.length := by
        intro j b e
        rw [← hh] at e
        obtain ⟨m, i, b0, q1, q2, q3, q4, q5⟩ := numb_look e
        rw [Nat.zero_add] at q1
        subst q1
        refine ⟨b0, ?_, q5, q2⟩
        rw [hkeys] at q4
        rw [q4]
        exact look_mem_nodup (by rw [hkeys]; exact hnd) q3
      have hHin : ∀ j, j < frag.length → inH H j = true := by
        intro j hj
        obtain ⟨b0, _, q⟩ := numb_some (σ := posN keys) (h := frag) (n := 0) hj
        rw [Nat.zero_add, hh] at q
        unfold inH; rw [q]; rfl
      have hposlt : ∀ i, inH frag i = true → posN keys i < frag.length := fun i hi => by rw [← hklen]; exact (nth_pos (hmem i hi)).2
      have hfok : ∀ i b, look frag i = some b → b.ok (inH frag) = true := fun i b e => List.all_eq_true.1 hof _ (mem_of_look e)
      have hnthin : ∀ j, j < frag.length → inH frag (nthN keys j) = true := fun j hj => by
        rw [← mem_keys, hkeys]; exact mem_nth (by rw [hklen]; exact hj)
      have hrelf : Rel ν (look frag) w := by
        refine ⟨fun i b e => ?_, fun i j bi bj ne ei ej ho => ?_⟩
        · obtain ⟨b0, q1, rfl⟩ := hfl i b e
          exact Blk.det_den hr b0 (hfok i _ e) (hr.den i b0 q1)
        · obtain ⟨b0, q1, rfl⟩ := hfl i bi ei
          obtain ⟨b1, q2, rfl⟩ := hfl j bj ej
          rw [Blk.det_owned] at ho
          exact hr.dis i j b0 b1 ne q1 q2 ho
      have hrelc : Rel νc (look H) w := by
        refine ⟨fun j b e => ?_, fun i j bi bj ne ei ej ho => ?_⟩
        · obtain ⟨b0, q1, rfl, q3⟩ := hHlook j b e
          exact Blk.ren_den (p := inH frag) hcore1 rfl rfl (hfok _ _ q1) (hrelf.den _ _ q1)
        · obtain ⟨b0, q1, rfl, q3⟩ := hHlook i bi ei
          obtain ⟨b1, r1, rfl, r3⟩ := hHlook j bj ej
          rw [Blk.ren_owned] at ho
          refine hrelf.dis _ _ b0 b1 (fun e => ne ?_) q1 r1 ho
          have e1 := pos_nth hnd (show i < keys.length by rw [hklen]; exact q3)
          have e2 := pos_nth hnd (show j < keys.length by rw [hklen]; exact r3)
          rw [← e1, ← e2, e]
      have hHok : ∀ i b, look H i = some b → b.ok (inH H) = true ∧ i < H.length := by
        intro i b e
        obtain ⟨b0, q1, rfl, q3⟩ := hHlook i b e
        exact ⟨Blk.ren_ok (p := inH frag) (fun j hj => hHin _ (hposlt j hj)) _ (hfok _ _ q1), by rw [hHlen]; exact q3⟩
      have hcall := hsp.calls (renL (posN keys) as) H v0 h' νc w (renL_ok (p := inH frag) (fun j hj => hHin _ (hposlt j hj)) _ hoa) hHok hrelc h1 hout
      rw [renL_den (ν := ν) (p := inH frag) hcore1 as hoa, ← has, detOL_den hr _ (by rw [has]; exact hoa)] at hcall
      have hargs : c.args.map a.eval = (denL ν (c.args.toList.map ρ)).toArray := by
        apply Array.ext'
        rw [denL_map]
        simp only [List.map_map, Array.toList_map]
        refine List.map_congr_left fun x hx => ?_
        refine he x ?_
        have : ∀ l : List Operand, x ∈ l → okL (inH frag) (detOL L (l.map ρ)) = true → (ρ x).isJunk = false := by
          intro l
          induction l with
          | nil => intro h _; cases h
          | cons y r ih =>
            intro hm ho
            simp only [List.map_cons, detOL, okL, Bool.and_eq_true] at ho
            rcases List.mem_cons.1 hm with rfl | hm
            · exact detO_junk ho.1
            · exact ih hm ho.2
        exact this _ hx (by rw [has]; exact hoa)
      have hfe : a.eval (.func f) = .func (.func f) #[] #[] := rfl
      have hrun : (execOp a.eval o).run P w = .ok (.enter f (denL ν (c.args.toList.map ρ)).toArray) w := by
        unfold execOp
        simp only [hop, resolve, hc, hargs, Deferred.ofValue, hfe, invoke, callFunc, Sem.run_bind, Sem.run_pure, Result.andThen_ok, run_program, hf, hnm]
        cases hbd : fn.body with
        | none => simp [hbd] at hb
        | some bd => simp [hbd]
      unfold Oper.wp
      rw [hrun]
      refine Calls.mono hcall ?_
      rintro e w' ⟨ν', rfl, hcore2, hrel2, hown2, hprog2⟩
      clear hcall hrun hargs
      -- numbers of the result, back
      have hallO : ∀ j b, look h' j = some b → b.owned = true ∧ b.ok (inO H h') = true ∧ (∀ b0, look H j = some b0 → b0.owned = true) := by
        intro j b e
        unfold outO at hout
        simp only [Bool.and_eq_true] at hout
        have := List.all_eq_true.1 hout.2 _ (mem_of_look e)
        simp only [Bool.and_eq_true] at this
        refine ⟨this.1.1, this.1.2, fun b0 q => ?_⟩
        have h3 := this.2
        rw [q] at h3; exact h3
      have hkindO : ∀ j b b0, look h' j = some b → look H j = some b0 → sameKind b0 b = true := by
        intro j b b0 e q
        have := List.all_eq_true.1 hkind _ (mem_of_look e)
        simp only [q] at this
        exact this
      have hfsmem : ∀ j, inH h' j = true → ¬ j < frag.length → memN fs j = true := by
        intro j h1 h2
        rw [← hfs]
        unfold freshN
        rw [memN_filter, mem_keys, h1]
        simp only [Bool.true_and, Bool.not_eq_true']
        cases q : Nat.blt j frag.length
        · rfl
        · exact absurd (by simpa [Nat.blt_eq] using q) h2
      have hback1 : ∀ j, j < frag.length → backN keys fs nx j = nthN keys j := fun j hj => by
        unfold backN; rw [if_pos (by rw [hklen, Nat.blt_eq]; exact hj)]
      have hback2 : ∀ j, ¬ j < frag.length → backN keys fs nx j = nx + posN fs j := fun j hj => by
        unfold backN; rw [if_neg (by rw [hklen, Nat.blt_eq]; exact hj)]
      have hfslt : ∀ j, inH h' j = true → ¬ j < frag.length → posN fs j < stride := fun j h1 h2 => by
        have := (nth_pos (hfsmem j h1 h2)).2
        have h3 : fs.length ≤ stride := Nat.le_of_ble_eq_true hst
        omega
      have hfresh2 : ∀ j, inH h' j = true → ¬ j < frag.length → fresh nx (backN keys fs nx j) := fun j h1 h2 => by
        rw [hback2 j h2]
        have := hfslt j h1 h2
        exact ⟨by omega, by omega⟩
      have hnf : ∀ i, inH frag i = true → ¬ fresh nx i := by
        intro i hi
        obtain ⟨b, hb⟩ := Option.isSome_iff_exists.1 hi
        obtain ⟨b0, q, _⟩ := hfl i b hb
        exact (hL i b0 q).2
      let νn : Env := fun i => if nx ≤ i ∧ i < nx + stride then ν' (nthN fs (i - nx)) else if inH frag i = true then (if inH h' (posN keys i) = true then ⟨(ν i).core, (ν' (posN keys i)).fp⟩ else match look frag i with
        | some b => if b.owned = true then ⟨(ν i).core, fun _ => False⟩ else ν i
        | none => ν i) else ν i
      have hn1 : ∀ j, inH h' j = true → ¬ j < frag.length → νn (backN keys fs nx j) = ν' j := by
        intro j h1 h2
        have hfp := hfresh2 j h1 h2
        show (if nx ≤ backN keys fs nx j ∧ backN keys fs nx j < nx + stride then _ else _) = _
        rw [if_pos (show nx ≤ backN keys fs nx j ∧ backN keys fs nx j < nx + stride from hfp), hback2 j h2, Nat.add_sub_cancel_left, (nth_pos (hfsmem j h1 h2)).1]
      have hn2 : ∀ i, ¬ fresh nx i → inH frag i = true → inH h' (posN keys i) = true → νn i = ⟨(ν i).core, (ν' (posN keys i)).fp⟩ := by
        intro i h0 h1 h2
        show (if nx ≤ i ∧ i < nx + stride then _ else _) = _
        rw [if_neg (show ¬ (nx ≤ i ∧ i < nx + stride) from h0), if_pos h1, if_pos h2]
      have hn3 : ∀ i b, ¬ fresh nx i → look frag i = some b → ¬ inH h' (posN keys i) = true → b.owned = true → νn i = ⟨(ν i).core, fun _ => False⟩ := by
        intro i b h0 h1 h2 h3
        have hi : inH frag i = true := by unfold inH; rw [h1]; rfl
        show (if nx ≤ i ∧ i < nx + stride then _ else _) = _
        rw [if_neg (show ¬ (nx ≤ i ∧ i < nx + stride) from h0), if_pos hi, if_neg h2, h1]
        simp only [h3, if_true]
      have hn4 : ∀ i b, ¬ fresh nx i → look frag i = some b → ¬ inH h' (posN keys i) = true → b.owned = false → νn i = ν i := by
        intro i b h0 h1 h2 h3
        have hi : inH frag i = true := by unfold inH; rw [h1]; rfl
        show (if nx ≤ i ∧ i < nx + stride then _ else _) = _
        rw [if_neg (show ¬ (nx ≤ i ∧ i < nx + stride) from h0), if_pos hi, if_neg h2, h1]
        simp [h3]
      have hn5 : ∀ i, ¬ fresh nx i → ¬ inH frag i = true → νn i = ν i := by
        intro i h0 h1
        show (if nx ≤ i ∧ i < nx + stride then _ else _) = _
        rw [if_neg (show ¬ (nx ≤ i ∧ i < nx + stride) from h0), if_neg h1]
      have hncore : ∀ i, ¬ fresh nx i → (νn i).core = (ν i).core := by
        intro i h0
        by_cases h1 : inH frag i = true
        · by_cases h2 : inH h' (posN keys i) = true
          · rw [hn2 i h0 h1 h2]
          · obtain ⟨b, hb⟩ := Option.isSome_iff_exists.1 h1
            cases q : b.owned
            · rw [hn4 i b h0 hb h2 q]
            · rw [hn3 i b h0 hb h2 q]
        · rw [hn5 i h0 h1]
      -- cores agree
      have hcoreN : ∀ j, inO H h' j = true → (νn (backN keys fs nx j)).core = (ν' j).core := by
        intro j hj
        by_cases h2 : j < frag.length
        · rw [hback1 j h2, hncore _ (hnf _ (hnthin j h2)), hcore2 j (hHin j h2)]
        · have h1 : inH h' j = true := by
            unfold inO at hj
            simp only [Bool.or_eq_true] at hj
            rcases hj with hj | hj
            · exact hj
            · cases q : look H j with
              | none => rw [q] at hj; cases hj
              | some b => exact absurd (hHlook j b q).choose_spec.2.2 h2
          rw [hn1 j h1 h2]
      -- what the heap's turn says
      have hinj : ∀ j1 j2, inH h' j1 = true → inH h' j2 = true → backN keys fs nx j1 = backN keys fs nx j2 → j1 = j2 := by
        intro j1 j2 a1 a2 e
        by_cases h1 : j1 < frag.length <;> by_cases h2 : j2 < frag.length
        · rw [hback1 _ h1, hback1 _ h2] at e
          have e1 := pos_nth hnd (show j1 < keys.length by rw [hklen]; exact h1)
          have e2 := pos_nth hnd (show j2 < keys.length by rw [hklen]; exact h2)
          rw [← e1, ← e2, e]
        · exact absurd (e ▸ hfresh2 j2 a2 h2) (by rw [hback1 _ h1]; exact hnf _ (hnthin _ h1))
        · exact absurd (e.symm ▸ hfresh2 j1 a1 h1) (by rw [hback1 _ h2]; exact hnf _ (hnthin _ h2))
        · rw [hback2 _ h1, hback2 _ h2] at e
          have e3 : posN fs j1 = posN fs j2 := by omega
          rw [← (nth_pos (hfsmem j1 a1 h1)).1, ← (nth_pos (hfsmem j2 a2 h2)).1, e3]
      have hlookA : ∀ i b, look (backH keys fs nx h') i = some b → ∃ j b', look h' j = some b' ∧ i = backN keys fs nx j ∧ b = b'.ren (backN keys fs nx) := by
        intro i b e
        have := mem_of_look e
        unfold backH at this
        obtain ⟨⟨j, b'⟩, hm, hx⟩ := List.mem_map.1 this
        simp only [Prod.mk.injEq] at hx
        exact ⟨j, b', look_mem_nodup hnd' hm, hx.1.symm, hx.2.symm⟩
      have hlookA2 : ∀ j b', look h' j = some b' → look (backH keys fs nx h') (backN keys fs nx j) ≠ none := by
        intro j b' e hn
        have := (look_none_iff.1 hn) (b'.ren (backN keys fs nx))
        exact this (List.mem_map.2 ⟨(j, b'), mem_of_look e, rfl⟩)
      have hlookD : ∀ i b, look (deadN frag h') i = some b → b = .dead ∧ ∃ b0, look frag i = some b0 ∧ b0.owned = true ∧ ¬ inH h' (posN keys i) = true := by
        intro i b e
        have := mem_of_look e
        unfold deadN at this
        obtain ⟨⟨i', b'⟩, hm, hx⟩ := List.mem_map.1 this
        simp only [Prod.mk.injEq] at hx
        obtain ⟨rfl, rfl⟩ := hx
        obtain ⟨hm1, hm2⟩ := List.mem_filter.1 hm
        simp only [Bool.and_eq_true, Bool.not_eq_true', hkeys] at hm2
        exact ⟨rfl, b', look_mem_nodup (by rw [hkeys]; exact hnd) hm1, hm2.1, by rw [hm2.2]; simp⟩
      have hlookD2 : ∀ i b0, look frag i = some b0 → b0.owned = true → ¬ inH h' (posN keys i) = true → look (deadN frag h') i ≠ none := by
        intro i b0 e ho hn hnn
        have := (look_none_iff.1 hnn) .dead
        refine this (List.mem_map.2 ⟨(i, b0), List.mem_filter.2 ⟨mem_of_look e, ?_⟩, rfl⟩)
        simp only [Bool.and_eq_true, Bool.not_eq_true', hkeys]
        exact ⟨ho, by cases q : inH h' (posN keys i); rfl; exact absurd q hn⟩
      have hlu : ∀ i b, look u i = some b → (∃ j b', look h' j = some b' ∧ i = backN keys fs nx j ∧ b = b'.ren (backN keys fs nx)) ∨ (b = .dead ∧ ∃ b0, look frag i = some b0 ∧ b0.owned = true ∧ ¬ inH h' (posN keys i) = true) := by
        intro i b e
        rw [← hu, look_append] at e
        unfold over at e
        cases q : look (backH keys fs nx h') i with
        | some b2 => rw [q] at e; simp only [Option.some.injEq] at e; subst e; exact .inl (hlookA i _ q)
        | none => rw [q] at e; exact .inr (hlookD i b e)
      have hluS : ∀ i b0, look frag i = some b0 → b0.owned = true → look u i ≠ none := by
        intro i b0 e ho hn
        have hi : inH frag i = true := by unfold inH; rw [e]; rfl
        rw [← hu, look_append] at hn
        unfold over at hn
        by_cases q : inH h' (posN keys i) = true
        · obtain ⟨b', hb'⟩ := Option.isSome_iff_exists.1 q
          have := hlookA2 _ b' hb'
          rw [hback1 _ (hposlt i hi), (nth_pos (hmem i hi)).1] at this
          cases q2 : look (backH keys fs nx h') i with
          | some b2 => rw [q2] at hn; cases hn
          | none => exact this q2
        · cases q2 : look (backH keys fs nx h') i with
          | some b2 => rw [q2] at hn; cases hn
          | none => rw [q2] at hn; exact hlookD2 i b0 e ho q hn
      have hluF : ∀ j b', look h' j = some b' → look u (backN keys fs nx j) ≠ none := by
        intro j b' e hn
        rw [← hu, look_append] at hn
        unfold over at hn
        cases q2 : look (backH keys fs nx h') (backN keys fs nx j) with
        | some b2 => rw [q2] at hn; cases hn
        | none => exact hlookA2 j b' e q2
      have hownT : ∀ k, ownFp νc H k → touched ν nx u k := by
        rintro k ⟨j, b, e, ho, hk⟩
        obtain ⟨b0, q1, rfl, q3⟩ := hHlook j b e
        rw [Blk.ren_owned] at ho
        exact ⟨nthN keys j, hluS _ _ q1 ho, hnf _ (hnthin j q3), hk⟩
      have hx : Ext ν νn w nx u := by
        refine ⟨hncore, fun i h0 hnn => ?_, fun i h0 k hk => ?_, fun i h0 hnn k hk => ?_⟩
        · by_cases h1 : inH frag i = true
          · obtain ⟨b, hb⟩ := Option.isSome_iff_exists.1 h1
            by_cases h2 : inH h' (posN keys i) = true
            · obtain ⟨b', hb'⟩ := Option.isSome_iff_exists.1 h2
              have := hluF _ b' hb'
              rw [hback1 _ (hposlt i h1), (nth_pos (hmem i h1)).1] at this
              exact absurd hnn this
            · cases q : b.owned
              · rw [hn4 i b h0 hb h2 q]
              · exact absurd hnn (hluS i b hb q)
          · rw [hn5 i h0 h1]
        · by_cases h1 : inH frag i = true
          · obtain ⟨b, hb⟩ := Option.isSome_iff_exists.1 h1
            by_cases h2 : inH h' (posN keys i) = true
            · rw [hn2 i h0 h1 h2] at hk
              obtain ⟨b', hb'⟩ := Option.isSome_iff_exists.1 h2
              have hlt := hposlt i h1
              obtain ⟨bH, hbH⟩ := Option.isSome_iff_exists.1 (hHin _ hlt)
              have hk' : (ν' (posN keys i)).fp k := hk
              rcases hown2 _ b' hb' k hk' with h3 | h3
              · obtain ⟨m, m1, m2, m3⟩ := hownT k h3
                exact .inr (.inr ⟨m, m2, m1, m3⟩)
              · exact .inr (.inl h3)
            · cases q : b.owned
              · rw [hn4 i b h0 hb h2 q] at hk; exact .inl hk
              · rw [hn3 i b h0 hb h2 q] at hk; exact hk.elim
          · rw [hn5 i h0 h1] at hk; exact .inl hk
        · obtain ⟨b, hb⟩ := Option.ne_none_iff_exists'.1 hnn
          rcases hlu i b hb with ⟨j, b', e1, rfl, _⟩ | ⟨_, b0, e1, _, _⟩
          · have hj : inH h' j = true := by unfold inH; rw [e1]; rfl
            by_cases h2 : j < frag.length
            · rw [hback1 j h2] at h0; exact absurd h0 (hnf _ (hnthin j h2))
            · rw [hn1 j hj h2] at hk
              rcases hown2 j b' e1 k hk with h3 | h3
              · obtain ⟨m, m1, m2, m3⟩ := hownT k h3
                exact .inr ⟨m, m2, m1, m3⟩
              · exact .inl h3
          · exact absurd h0 (hnf i (by unfold inH; rw [e1]; rfl))
      have hprog : Prog w w' (touched ν nx u) := Prog.weaken hprog2 hownT
      -- the relation
      have hslot : ∀ j b', look h' j = some b' → (νn (backN keys fs nx j)).fp = (ν' j).fp := by
        intro j b' e
        have hj : inH h' j = true := by unfold inH; rw [e]; rfl
        by_cases h2 : j < frag.length
        · rw [hback1 j h2]
          have e1 := pos_nth hnd (show j < keys.length by rw [hklen]; exact h2)
          have := hn2 (nthN keys j) (hnf _ (hnthin j h2)) (hnthin j h2) (by rw [e1]; exact hj)
          rw [this, e1]
        · rw [hn1 j hj h2]
      let L' : Look := fun i => match look frag i with
        | some b => if b.owned = true then L i else none
        | none => none
      have hL'1 : ∀ i b, L' i = some b → L i = some b ∧ ∃ b0, look frag i = some b0 ∧ b0.owned = true := by
        intro i b e
        simp only [L'] at e
        split at e
        · rename_i b0 hb0
          split at e
          · rename_i ho; exact ⟨e, b0, hb0, ho⟩
          · cases e
        · cases e
      have hover : ∀ i b, over u L' i = some b → look u i = some b := by
        intro i b e
        unfold over at e
        cases q : look u i with
        | some b2 => rw [q] at e; exact e
        | none =>
          rw [q] at e
          obtain ⟨_, b0, q1, q2⟩ := hL'1 i b e
          exact absurd q (hluS i b0 q1 q2)
      have hrel : Rel νn (over u L') w' := by
        refine ⟨fun i b e => ?_, fun i j bi bj ne ei ej ho k hk hk' => ?_⟩
        · rcases hlu i b (hover i b e) with ⟨j, b', e1, rfl, rfl⟩ | ⟨rfl, b0, e1, e2, e3⟩
          · have hj : inH h' j = true := by unfold inH; rw [e1]; rfl
            have hO : inO H h' j = true := by unfold inO; rw [hj]; rfl
            exact Blk.ren_den (p := inO H h') hcoreN (hcoreN j hO).symm (hslot j b' e1).symm (hallO j b' e1).2.1 (hrel2.den j b' e1)
          · rw [hn3 i b0 (hnf i (by unfold inH; rw [e1]; rfl)) e1 e3 e2]
            exact fun _ h => h
        · rcases hlu i bi (hover i bi ei) with ⟨j1, b1, e1, rfl, rfl⟩ | ⟨rfl, _⟩
          · rcases hlu j bj (hover j bj ej) with ⟨j2, b2, e2, rfl, rfl⟩ | ⟨rfl, b0, f1, f2, f3⟩
            · rw [hslot j1 b1 e1] at hk
              rw [hslot j2 b2 e2] at hk'
              rw [Blk.ren_owned] at ho
              exact hrel2.dis j1 j2 b1 b2 (fun e => ne (by rw [e])) e1 e2 ho k hk hk'
            · rw [hn3 j b0 (hnf j (by unfold inH; rw [f1]; rfl)) f1 f3 f2] at hk'
              exact hk'
          · cases ho
      have hfin : Rel νn (over u L) w' := Rel.frame (p := nf nx) hr (fun i b e => (hL'1 i b e).1) (fun i hi => nf_iff.1 hi) hL (fun i h0 hnn => by
        obtain ⟨b, hb⟩ := Option.ne_none_iff_exists'.1 hnn
        have key : ∀ b0, look frag i = some b0 → b0.owned = true → ∃ b, L' i = some b ∧ b.owned = true := by
          intro b0 q1 q2
          obtain ⟨bL, r1, r2⟩ := hfl i b0 q1
          refine ⟨bL, ?_, by rw [r2, Blk.det_owned] at q2; exact q2⟩
          simp only [L', q1, q2, if_true]; exact r1
        rcases hlu i b hb with ⟨j, b', e1, rfl, _⟩ | ⟨_, b0, e1, e2, _⟩
        · have hj : inH h' j = true := by unfold inH; rw [e1]; rfl
          by_cases h2 : j < frag.length
          · obtain ⟨bH, hbH⟩ := Option.isSome_iff_exists.1 (hHin j h2)
            have ho := (hallO j b' e1).2.2 bH hbH
            obtain ⟨b0, q1, q2, _⟩ := hHlook j bH hbH
            rw [q2, Blk.ren_owned] at ho
            rw [hback1 j h2] at *
            exact key b0 q1 ho
          · exact absurd (hfresh2 j hj h2) h0
        · exact key b0 e1 e2) hx hrel hprog
      have hend := hk νn w' hx hfin hprog
      have hvd : V.den νn v = V.den ν' v0 := by
        rw [← hv]
        refine V.ren_den (p := inO H h') hcoreN v0 ?_
        unfold outO at hout
        simp only [Bool.and_eq_true] at hout
        exact hout.1
      rw [hvd] at hend
      exact hend
    · cases h
  · cases h
/-- a call that reads all that it is led to -/
def callS (sp : List V → Heap → T V) (L : Look) (nx : Nat) (args : List V) : R :=
  let as := detOL L args
  let frag := grab L 200 (idsL as) []
  let keys := keysN frag
  if (nodupN keys && okL (inH frag) as && frag.all fun p => p.2.ok (inH frag)) = true then
    (sp (renL (posN keys) as) (numb (posN keys) 0 frag)).strip.bind fun v =>
      if flat v = true ∧ inStride nx (attach nx v).2 = true then .ret (attach nx v) else .fail
  else .fail
theorem callS_ok {P : Program} {o : Oper} {ρ : Operand → V} {L : Look} {nx f : Nat} {sp : List V → Heap → T V} {c : Call} {v : V} {u : Heap} (hop : o.op = .call c) (hc : c.callee = .value (.func f))
    (hsp : SeeOk P f sp) (h : (callS sp L nx (c.args.toList.map ρ)).eval = some (v, u)) : OpOk P o ρ L nx v u := by
  intro ν a w K Q he hoka hL hr hk
  obtain ⟨fn, hf, hb, hnm⟩ := hsp.body
  unfold callS at h
  simp only at h
  generalize has : detOL L (c.args.toList.map ρ) = as at h
  generalize hfr : grab L 200 (idsL as) [] = frag at h
  have hfl : ∀ i b', look frag i = some b' → ∃ b, L i = some b ∧ b' = b.det L := by
    rw [← hfr]; exact grab_look _ _ _ fun i b' e => by cases e
  split at h
  · rename_i hg
    simp only [Bool.and_eq_true] at hg
    obtain ⟨⟨hnd, hoa⟩, hof⟩ := hg
    obtain ⟨v0, h1, h⟩ := T.eval_bind_some h
    rw [T.eval_strip] at h1
    split at h
    · rename_i hq
      simp only [T.eval, Option.some.injEq] at h
      obtain rfl : v = (attach nx v0).1 := (congrArg Prod.fst h).symm
      obtain rfl : u = (attach nx v0).2 := (congrArg Prod.snd h).symm
      clear h
      generalize hkeys : keysN frag = keys at *
      have hklen : keys.length = frag.length := by rw [← hkeys]; simp [keysN]
      generalize hh : numb (posN keys) 0 frag = H at *
      have hHlen : H.length = frag.length := by rw [← hh]; exact numb_length _ _
      -- the canonical environment
      let νc : Env := fun j => ν (nthN keys j)
      have hmem : ∀ i, inH frag i = true → memN keys i = true := fun i hi => by rw [← hkeys, mem_keys]; exact hi
      have hcore1 : ∀ i, inH frag i = true → (νc (posN keys i)).core = (ν i).core := fun i hi => by
        show (ν (nthN keys (posN keys i))).core = _
        rw [(nth_pos (hmem i hi)).1]
      have hHlook : ∀ j b, look H j = some b → ∃ b0, look frag (nthN keys j) = some b0 ∧ b = b0.ren (posN keys) ∧ j < frag.length := by
        intro j b e
        rw [← hh] at e
        obtain ⟨m, i, b0, q1, q2, q3, q4, q5⟩ := numb_look e
        rw [Nat.zero_add] at q1
        subst q1
        refine ⟨b0, ?_, q5, q2⟩
        rw [hkeys] at q4
        rw [q4]
        exact look_mem_nodup (by rw [hkeys]; exact hnd) q3
      have hHin : ∀ j, j < frag.length → inH H j = true := by
        intro j hj
        obtain ⟨b0, _, q⟩ := numb_some (σ := posN keys) (h := frag) (n := 0) hj
        rw [Nat.zero_add, hh] at q
        unfold inH; rw [q]; rfl
      have hposlt : ∀ i, inH frag i = true → posN keys i < frag.length := fun i hi => by rw [← hklen]; exact (nth_pos (hmem i hi)).2
      have hfok : ∀ i b, look frag i = some b → b.ok (inH frag) = true := fun i b e => List.all_eq_true.1 hof _ (mem_of_look e)
      have hnthin : ∀ j, j < frag.length → inH frag (nthN keys j) = true := fun j hj => by
        rw [← mem_keys, hkeys]; exact mem_nth (by rw [hklen]; exact hj)
      have hrelf : Rel ν (look frag) w := by
        refine ⟨fun i b e => ?_, fun i j bi bj ne ei ej ho => ?_⟩
        · obtain ⟨b0, q1, rfl⟩ := hfl i b e
          exact Blk.det_den hr b0 (hfok i _ e) (hr.den i b0 q1)
        · obtain ⟨b0, q1, rfl⟩ := hfl i bi ei
          obtain ⟨b1, q2, rfl⟩ := hfl j bj ej
          rw [Blk.det_owned] at ho
          exact hr.dis i j b0 b1 ne q1 q2 ho
      have hrelc : Rel νc (look H) w := by
        refine ⟨fun j b e => ?_, fun i j bi bj ne ei ej ho => ?_⟩
        · obtain ⟨b0, q1, rfl, q3⟩ := hHlook j b e
          exact Blk.ren_den (p := inH frag) hcore1 rfl rfl (hfok _ _ q1) (hrelf.den _ _ q1)
        · obtain ⟨b0, q1, rfl, q3⟩ := hHlook i bi ei
          obtain ⟨b1, r1, rfl, r3⟩ := hHlook j bj ej
          rw [Blk.ren_owned] at ho
          refine hrelf.dis _ _ b0 b1 (fun e => ne ?_) q1 r1 ho
          have e1 := pos_nth hnd (show i < keys.length by rw [hklen]; exact q3)
          have e2 := pos_nth hnd (show j < keys.length by rw [hklen]; exact r3)
          rw [← e1, ← e2, e]
      have hHok : ∀ i b, look H i = some b → b.ok (inH H) = true ∧ i < H.length := by
        intro i b e
        obtain ⟨b0, q1, rfl, q3⟩ := hHlook i b e
        exact ⟨Blk.ren_ok (p := inH frag) (fun j hj => hHin _ (hposlt j hj)) _ (hfok _ _ q1), by rw [hHlen]; exact q3⟩
      have hcall := hsp.calls (renL (posN keys) as) H v0 νc w (renL_ok (p := inH frag) (fun j hj => hHin _ (hposlt j hj)) _ hoa) hHok hrelc h1 hq.1
      rw [renL_den (ν := ν) (p := inH frag) hcore1 as hoa, ← has, detOL_den hr _ (by rw [has]; exact hoa)] at hcall
      have hargs : c.args.map a.eval = (denL ν (c.args.toList.map ρ)).toArray := by
        apply Array.ext'
        rw [denL_map]
        simp only [List.map_map, Array.toList_map]
        refine List.map_congr_left fun x hx => ?_
        refine he x ?_
        have : ∀ l : List Operand, x ∈ l → okL (inH frag) (detOL L (l.map ρ)) = true → (ρ x).isJunk = false := by
          intro l
          induction l with
          | nil => intro h _; cases h
          | cons y r ih =>
            intro hm ho
            simp only [List.map_cons, detOL, okL, Bool.and_eq_true] at ho
            rcases List.mem_cons.1 hm with rfl | hm
            · exact detO_junk ho.1
            · exact ih hm ho.2
        exact this _ hx (by rw [has]; exact hoa)
      have hfe : a.eval (.func f) = .func (.func f) #[] #[] := rfl
      have hrun : (execOp a.eval o).run P w = .ok (.enter f (denL ν (c.args.toList.map ρ)).toArray) w := by
        unfold execOp
        simp only [hop, resolve, hc, hargs, Deferred.ofValue, hfe, invoke, callFunc, Sem.run_bind, Sem.run_pure, Result.andThen_ok, run_program, hf, hnm]
        cases hbd : fn.body with
        | none => simp [hbd] at hb
        | some bd => simp [hbd]
      unfold Oper.wp
      rw [hrun]
      refine Calls.mono hcall ?_
      rintro e w' ⟨rfl, hbl⟩
      have hfr2 : ∀ i, look (attach nx v0).2 i ≠ none → fresh nx i := by
        intro i hi
        obtain ⟨b, hb⟩ := Option.ne_none_iff_exists'.1 hi
        have := mem_of_look hb
        refine ⟨attach_ge _ _ _ _ this, ?_⟩
        have h3 := List.all_eq_true.1 hq.2 _ this
        simpa [Nat.blt_eq] using h3
      have hr' : Rel ν L w' := ⟨fun i b hb => Blk.loc (hr.den i b hb) fun k hk => hbl.block k (Blk.bnd (hr.den i b hb) k hk), hr.dis⟩
      have := hk (leafEnv ν (attach nx v0).2) w' (leafEnv_ext (attach_leaves _ _) hfr2) (leafEnv_rel (attach_leaves _ _) hfr2 hL hr') (Prog.of_below hbl)
      have e : V.den (leafEnv ν (attach nx v0).2) (attach nx v0).1 = v0.den nu0 := attach_den (ν := nu0) v0 nx hq.1 fun i c hi => by
        unfold leafEnv
        rw [attach_look _ _ _ _ hi]
      rw [e] at this
      exact this
    · cases h
  · cases h
end Go.Eng
