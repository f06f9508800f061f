import Derived.Test.YtefkegpbpaoadaaGreatDoorGZ
set_option linter.unusedVariables false
set_option linter.unusedSimpArgs false
noncomputable section
namespace Go.Proofs.YtefkegpbpaoadaaGreatDoor.Sub
def lt2 (x y:Int):Bool:=decide (scI x<scI y)||(decide (scI x=scI y)&&decide (x<y))
def ofN (ids:List Int) (m:Nat):List Int:=ids.filter fun x=>decide (ids.countP (fun y=>lt2 y x)<m)
theorem mj:∀ (ids:List Int) (k:Nat),(wZ k ids).map (fun x=>x.2.1)=ids
 | [],_=>rfl
 | x::r,k=>by simp only [wZ,List.map_cons,mj r (k+1)]
theorem w8:∀ (ids:List Int) (k:Nat),∀ x∈wZ k ids,x.1=scI x.2.1
 | [],_,x,h=>by cases h
 | y::r,k,x,h=>by
  rcases ajI.1 h with rfl | h
  ·rfl
  ·exact w8 r (k+1) x h
theorem Av:∀ (ids:List Int) (k:Nat),ids.Nodup->∀ x∈wZ k ids,∀ y∈wZ k ids,x.2.1=y.2.1->x=y
 | [],_,_,x,h=>by cases h
 | z::r,k,hn,x,hx=>by
  intro y hy e;have hmem:∀ u∈wZ (k+1) r,u.2.1∈r:=fun u hu=>by
   rw [<- mj r (k+1)];exact List.mem_map_of_mem (f:=fun x:Rv=>x.2.1) hu
  obtain ⟨n1,n2⟩:=List.nodup_cons.1 hn;rcases ajI.1 hx with rfl | hx
  ·rcases ajI.1 hy with rfl | hy
   ·rfl
   ·have e:z=y.2.1:=e;rw [e] at n1;exact absurd (hmem y hy) n1
  ·rcases ajI.1 hy with rfl | hy
   ·have e:x.2.1=z:=e;rw [<- e] at n1;exact absurd (hmem x hx) n1
   ·exact Av r (k+1) n2 x hx y hy e
theorem U4 {ids:List Int} (hn:ids.Nodup) {x y:Rv} (hx:x∈bQ ids) (hy:y∈bQ ids):lt3 x y=lt2 x.2.1 y.2.1:=by
 have ex:=w8 ids 0 x hx;have ey:=w8 ids 0 y hy;by_cases e:x.2.1=y.2.1
 ·have:=Av ids 0 hn x hx y hy e;rw [this,oy];unfold lt2;simp
 ·have:lt3 x y=true↔lt2 x.2.1 y.2.1=true:=by
   rw [sP,ex,ey];unfold lt2;simp only [ajW,AS,By];omega
  cases h1:lt3 x y<;>cases h2:lt2 x.2.1 y.2.1<;>simp_all
theorem De {ids:List Int} (hn:ids.Nodup) (m:Nat):(kX (bQ ids) m).map (fun x=>x.2.1)=ofN ids m:=by
 have e:=mj ids 0;have hr:∀ x∈bQ ids,NM (bQ ids) x=ids.countP (fun y=>lt2 y x.2.1):=fun x hx=>by
  conv=>rhs;rw [<- e]
  rw [List.countP_map];unfold NM;exact List.countP_congr fun y hy=>by rw [U4 hn hy hx];rfl
 unfold ofN
 conv=>rhs;rw [show List.filter (fun x=>decide (ids.countP (fun y=>lt2 y x)<m)) ids=List.filter (fun x=>decide (ids.countP (fun y=>lt2 y x)<m)) ((bQ ids).map (fun x=>x.2.1)) by rw [show (bQ ids).map (fun x=>x.2.1)=ids from e]]
 rw [List.filter_map];unfold kX;congr 1;exact List.filter_congr fun x hx=>by rw [hr x hx];rfl
theorem XZ {ids:List Int} (hn:ids.Nodup) {m:Int} (hm:1<=m):ofV ids m=ofN ids m.toNat:=by
 unfold ofV;by_cases q:(ids.length:Int)<=m
 ·rw [if_pos (.inr q)];unfold ofN
  symm
  rw [List.filter_eq_self];intro x hx;refine c9 ?_;have h1:ids.countP (fun y=>lt2 y x)<ids.length:=by
   rw [List.countP_eq_length_filter];exact List.length_filter_lt_length_iff_exists.2 ⟨x,hx,by unfold lt2;simp⟩
  omega
 ·rw [if_neg (by omega),De hn]
end Go.Proofs.YtefkegpbpaoadaaGreatDoor.Sub
end
