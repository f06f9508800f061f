/- The machine: nil slices that a contract leaves in an object, read as empty rows of the object's own. No program is named here. -/
import Derived.Test.YtheknddbbgjpkaaEngH
namespace Go.Eng
open Go.RowKit
set_option linter.unusedVariables false
set_option linter.unusedSimpArgs false
def maxK : Heap → Nat
  | [] => 0
  | (i, _) :: r => i + maxK r
theorem maxK_le : ∀ {h : Heap} {i : Nat} {b : Blk}, (i, b) ∈ h → i ≤ maxK h
  | (j, c) :: r, i, b, hm => by
    unfold maxK
    rcases List.mem_cons.1 hm with h | h
    · cases h; omega
    · have := maxK_le h; omega
def putAt (i : Nat) (b : Blk) : Heap → Heap
  | [] => []
  | (j, c) :: r => (j, if Nat.beq j i then b else c) :: putAt i b r
theorem look_putAt {i : Nat} {b : Blk} : ∀ {h : Heap} {j : Nat}, look (putAt i b h) j = (look h j).map fun c => if Nat.beq j i then b else c
  | [], j => rfl
  | (k, c) :: r, j => by
    simp only [putAt, look]
    by_cases e : (k == j) = true
    · have : k = j := by simpa using e
      subst this; simp
    · rw [if_neg e, if_neg e]; exact look_putAt
/-- a nil slice in cell n of block i as an empty row of its own -/
def adoptH (i n : Nat) (e : TypeId) (ks : List K) (h0 : Heap) (r : V × Heap) : T (V × Heap) :=
  match Eng.look r.2 i with
  | some (.cells t l) => match l[n]? with
    | some .nilSl => if outO h0 r.1 r.2 = true then .ret (r.1, putAt i (.cells t (l.set n (.sub (maxK r.2 + h0.length + 1) ks.length 0 0))) r.2 ++ [(maxK r.2 + h0.length + 1, .lst true e ks [])]) else .fail
    | _ => .fail
  | none => .ret r
  | _ => .fail
theorem denL_set (ν : Env) : ∀ (l : List V) (n : Nat) (v : V), denL ν (l.set n v) = (denL ν l).set n (v.den ν)
  | [], n, v => by simp [denL]
  | x :: r, 0, v => by simp [denL]
  | x :: r, n + 1, v => by simp [denL, denL_set ν r n v]
theorem denL_get (ν : Env) : ∀ (l : List V) (n : Nat), (denL ν l)[n]? = (l[n]?).map (V.den ν)
  | [], n => by simp [denL]
  | x :: r, 0 => by simp [denL]
  | x :: r, n + 1 => by simp [denL, denL_get ν r n]
theorem set_same {α : Type} : ∀ (l : List α) (n : Nat) (x : α), l[n]? = some x → l.set n x = l
  | [], n, x, h => by simp at h
  | y :: r, 0, x, h => by simp at h; simp [h]
  | y :: r, n + 1, x, h => by simp only [List.set_cons_succ]; rw [set_same r n x (by simpa using h)]
theorem ObjOk.adopt {P : Program} {f : Nat} {sp : Obj} (h : ObjOk P f sp) (i n : Nat) (e : TypeId) (ks : List K) : ObjOk P f (fun args h0 => (sp args h0).bind (adoptH i n e ks h0)) := by
  refine ⟨h.body, fun args h0 v h'' ν w hoa hoh hrel hv hout => ?_⟩
  obtain ⟨⟨v0, h'⟩, h1, h2⟩ := T.eval_bind_some hv
  unfold adoptH at h2
  split at h2
  · rename_i t l hi
    split at h2
    · rename_i hn
      split at h2
      · rename_i ho
        simp only [T.eval, Option.some.injEq, Prod.mk.injEq] at h2
        obtain ⟨rfl, rfl⟩ := h2
        simp only at hi hn ho ⊢
        generalize hK : maxK h' + h0.length + 1 = K at *
        refine (h.calls args h0 v0 h' ν w hoa hoh hrel h1 ho).mono ?_
        rintro ex w' ⟨ν', rfl, hcore, hr, hown, hprog⟩
        have hKn : ∀ j, inO h0 h' j = true → j ≠ K := by
          intro j hj e
          subst e
          unfold inO at hj
          simp only [Bool.or_eq_true] at hj
          rcases hj with hj | hj
          · obtain ⟨b, hb⟩ := Option.isSome_iff_exists.1 hj
            have := maxK_le (mem_of_look hb); omega
          · cases q : look h0 j with
            | none => rw [q] at hj; cases hj
            | some b => have := (hoh j b q).2; omega
        have hKk : ∀ j b, look h' j = some b → j ≠ K := fun j b e2 => hKn j (by unfold inO inH; rw [e2]; rfl)
        let ν2 : Env := fun j => if j = K then ⟨⟨0, 0, 0, none, false⟩, fun _ => False⟩ else ν' j
        have n1 : ν2 K = ⟨⟨0, 0, 0, none, false⟩, fun _ => False⟩ := by simp [ν2]
        have n2 : ∀ j, j ≠ K → ν2 j = ν' j := fun j hj => by simp [ν2, hj]
        unfold outO at ho
        simp only [Bool.and_eq_true] at ho
        have hvd : v0.den ν' = v0.den ν2 := V.den_congr (p := inO h0 h') (fun j hj => by rw [n2 j (hKn j hj)]) v0 ho.1
        have hok : ∀ j b, look h' j = some b → b.ok (inO h0 h') = true := fun j b e2 => by
          have := List.all_eq_true.1 ho.2 _ (mem_of_look e2)
          simp only [Bool.and_eq_true] at this
          exact this.1.2
        have hlk : ∀ j b, look (putAt i (.cells t (l.set n (.sub K ks.length 0 0))) h' ++ [(K, Blk.lst true e ks [])]) j = some b → (j = K ∧ b = .lst true e ks []) ∨ (j ≠ K ∧ ∃ c, look h' j = some c ∧ b = if Nat.beq j i then .cells t (l.set n (.sub K ks.length 0 0)) else c) := by
          intro j b e2
          rw [look_append] at e2
          unfold over at e2
          rw [look_putAt] at e2
          cases q : look h' j with
          | some c =>
            rw [q] at e2
            simp only [Option.map_some, Option.some.injEq] at e2
            exact .inr ⟨hKk j c q, c, rfl, e2.symm⟩
          | none =>
            rw [q] at e2
            simp only [Option.map_none, look] at e2
            by_cases q2 : (K == j) = true
            · simp only [q2, if_true, Option.some.injEq] at e2
              exact .inl ⟨by simpa using (show K = j by simpa using q2).symm, e2.symm⟩
            · simp [q2] at e2
        have hden : ∀ j c, look h' j = some c → (if Nat.beq j i then Blk.cells t (l.set n (.sub K ks.length 0 0)) else c).den ν2 (ν2 j) w' := by
          intro j c e2
          have hd := Blk.den_congr (p := inO h0 h') (ν' := ν2) (σ' := ν2 j) (fun m hm => by rw [n2 m (hKn m hm)]) (by rw [n2 j (hKk j c e2)]) (by rw [n2 j (hKk j c e2)]) (hok j c e2) (hr.den j c e2)
          split
          · rename_i hji
            have : j = i := Nat.eq_of_beq_eq_true hji
            subst this
            rw [hi] at e2
            cases e2
            obtain ⟨d1, d2, d3⟩ := hd
            refine ⟨d1, d2, ?_⟩
            have hs : denL ν2 (l.set n (.sub K ks.length 0 0)) = denL ν2 l := by
              rw [denL_set]
              refine set_same _ _ _ ?_
              rw [denL_get, hn]
              simp [V.den, n1]
            rw [hs]; exact d3
          · exact hd
        refine ⟨ν2, by rw [hvd], fun j hj => ?_, ⟨fun j b e2 => ?_, fun j m bj bm ne ej em ho2 k hk hk' => ?_⟩, fun j b e2 k hk => ?_, hprog⟩
        · have : j ≠ K := by
            obtain ⟨b, hb⟩ := Option.isSome_iff_exists.1 hj
            have := (hoh j b hb).2; omega
          rw [n2 j this]; exact hcore j hj
        · rcases hlk j b e2 with ⟨rfl, rfl⟩ | ⟨_, c, q1, rfl⟩
          · rw [n1]
            exact ⟨ownsB_nil w' 0 e ks.length, fun k => ⟨fun h => h.elim, by rintro ⟨a, ha, _⟩; cases ha⟩⟩
          · exact hden j c q1
        · rcases hlk j bj ej with ⟨rfl, rfl⟩ | ⟨q0, c, q1, rfl⟩
          · rw [n1] at hk; exact hk
          · rcases hlk m bm em with ⟨rfl, rfl⟩ | ⟨r0, d, r1, rfl⟩
            · rw [n1] at hk'; exact hk'
            · rw [n2 j q0] at hk
              rw [n2 m r0] at hk'
              refine hr.dis j m c d ne q1 r1 ?_ k hk hk'
              have := List.all_eq_true.1 ho.2 _ (mem_of_look q1)
              simp only [Bool.and_eq_true] at this
              exact this.1.1
        · rcases hlk j b e2 with ⟨rfl, rfl⟩ | ⟨q0, c, q1, rfl⟩
          · rw [n1] at hk; exact hk.elim
          · rw [n2 j q0] at hk; exact hown j c q1 k hk
      · cases h2
    · cases h2
  · simp only [T.eval, Option.some.injEq, Prod.mk.injEq] at h2
    obtain ⟨rfl, rfl⟩ := h2
    exact h.calls args h0 v0 h' ν w hoa hoh hrel h1 hout
  · cases h2
end Go.Eng
