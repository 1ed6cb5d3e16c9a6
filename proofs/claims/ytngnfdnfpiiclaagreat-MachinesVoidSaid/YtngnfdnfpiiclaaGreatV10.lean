/-
  Pieces of one proof, without what is not wanted: Maps.
-/
import Derived.Test.YtngnfdnfpiiclaaGreatV02
import Derived.Test.YtngnfdnfpiiclaaGreatV09
import Derived.Maps.Keyed
import Derived.Maps.RangeRun
import Derived.DeepKeys4
import Derived.Carry
set_option linter.unusedSimpArgs false
set_option linter.unusedVariables false
namespace Go.Proofs.YtngnfdnfpiiclaaGreat
open Go.RowKit
open Go.MapKept (Stamped stamped_iff stamped_empty stamped_push stamped_modify stamped_erase)
open Go.ChangeMaps (setBlock)
structure KeyOk (P:Program) (k:TypeId) (S:Value→Prop):Prop where
 check:∀ (w:World) (em:Bool) (v:Value),S v→(Instr.checkKey em 10000 k v).run P w=.ok () w
 find:∀ (w:World) (x:Value),S x→∀ es:List MapEntry,(∀ e ∈ es,S e.key) →
  ((Instr.findKey k x es).run P w=.ok none w∧∀ e ∈ es,e.key≠x)∨∃ j e,(Instr.findKey k x es).run P w=.ok (some (j,e.val)) w∧es[j]? = some e∧e.key=x
 stays:∀ (w:World) (v:Value),S v→(Instr.keyThatStays v v).run P w=.ok v w
theorem KeyOk.of_keyed {P:Program} {k:TypeId} {S:Value→Prop} (K:Go.Maps.Keyed P k) (h:∀ v,S v→∃ l,keyOf P k v=some l):KeyOk P k S where
 check w em v hv:=by obtain ⟨l,hl⟩:=h v hv; exact K.check w em hl
 find w x hx es hes:=by
  obtain ⟨l,hl⟩:=h x hx
  exact K.find w hl es (fun e he=>h _ (hes e he))
 stays w v hv:=by obtain ⟨l,hl⟩:=h v hv; exact K.stays w hl
def kv (e:MapEntry):Value × Value:=(e.key,e.val)
def MapHas (w:World) (m:Nat) (kvs:List (Value × Value)):Prop :=
 ∃ es clock,w.heap[m]? = some (.map es clock)∧Stamped es clock∧es.toList.map kv=kvs
theorem setBlock_same {w:World} {r:Nat} {o:Obj} (hb:w.heap[r]? = some o) (o':Obj):(setBlock w r o').heap[r]? = some o':=(MapKept.heap_set hb).1
theorem setBlock_other {w:World} {r:Nat} (o':Obj) {i:Nat} (h:i≠r):(setBlock w r o').heap[i]? = w.heap[i]? := by
 show (w.heap.setIfInBounds r o')[i]? = _
 rw [Array.getElem?_setIfInBounds_ne (Ne.symm h)]
structure Turned (m:Nat) (w w':World):Prop where
 os:w'.os=w.os
 tape:w'.tape=w.tape
 output:w'.output=w.output
 size:w'.heap.size=w.heap.size
 block:∀ i,i≠m→w'.heap[i]? = w.heap[i]?
theorem Turned.set (w:World) (m:Nat) (o:Obj):Turned m w (setBlock w m o):=⟨rfl,rfl,rfl,by simp [setBlock],fun i hi=>setBlock_other _ hi⟩
theorem Turned.keep {m:Nat} {w w':World} (h:Turned m w w'):Keep (·=m) w w':=⟨h.os,h.tape,h.output,by rw [h.size]; exact Nat.le_refl _,fun k _ hk=>h.block k hk⟩
theorem MapHas.lt {w:World} {m:Nat} {kvs:List (Value × Value)} (h:MapHas w m kvs):m<w.heap.size:=by
 obtain ⟨es,clock,hb,_⟩:=h
 exact (Array.getElem?_eq_some_iff.1 hb).1
theorem MapHas.keep {S:Nat→Prop} {w w':World} {m:Nat} {kvs:List (Value × Value)} (h:MapHas w m kvs) (k:Keep S w w') (hs:¬ S m):MapHas w' m kvs:=by
 have hlt:=h.lt
 obtain ⟨es,clock,hb,h2⟩:=h
 exact ⟨es,clock,by rw [k.block m hlt hs]; exact hb,h2⟩
theorem MapHas.below {w w':World} {B m:Nat} {kvs:List (Value × Value)} (h:MapHas w m kvs) (k:Below B w w') (hm:m<B):MapHas w' m kvs:=by
 obtain ⟨es,clock,hb,h2⟩:=h
 exact ⟨es,clock,by rw [k.block m hm]; exact hb,h2⟩
theorem MapHas.made (w:World):MapHas (w.alloc (.map #[] 0)) w.heap.size [] :=
 ⟨#[],0,heap_alloc_new w _,stamped_empty 0,rfl⟩
theorem MapHas.ne_blk {w:World} {m g:Nat} {kvs:List (Value × Value)} {cs:Array Value} {t:TypeId} (h:MapHas w m kvs) (b:Blk w g cs t):m≠g:=by
 rintro rfl
 obtain ⟨es,clock,hb,_⟩:=h
 unfold Blk at b
 rw [b] at hb
 cases hb
section
variable {P:Program} {k t e:TypeId} {S:Value→Prop} {w:World} {m:Nat} {kvs:List (Value × Value)}
theorem keys_of {es:Array MapEntry} (h:es.toList.map kv=kvs) (hS:∀ p ∈ kvs,S p.1):∀ x ∈ es.toList,S x.key:=fun x hx=>hS (kv x) (by rw [← h]; exact List.mem_map_of_mem hx)
theorem MapHas.look_none (h:MapHas w m kvs) (K:KeyOk P k S) (hS:∀ p ∈ kvs,S p.1) (ht:P.underlying t=some (.map k e)) {z:Value} (hz:(zeroValue e).run P w=.ok z w) {key:Value} (hk:S key) (hno:∀ p ∈ kvs,p.1≠key) (c:Bool) :
  (Instr.lookup t (.map (some m)) key c).run P w=.ok (if c then .tuple #[z,.bool false] else z) w:=by
 obtain ⟨es,clock,hb,F,hl⟩:=h
 rcases K.find w key hk es.toList (keys_of hl hS) with ⟨h1,h2⟩ | ⟨j,e0,h1,h2,h3⟩
 ·simp [Instr.lookup,run_underlying ht,MapKept.run_getObj_map hb,K.check w _ key hk,h1,hz,Result.andThen]
 ·exact absurd h3 (hno (kv e0) (by rw [← hl]; exact List.mem_map_of_mem (List.mem_of_getElem? h2)))
theorem MapHas.look_some (h:MapHas w m kvs) (K:KeyOk P k S) (hS:∀ p ∈ kvs,S p.1) (ht:P.underlying t=some (.map k e)) {key v:Value} (hk:S key) (hin:(key,v) ∈ kvs) (c:Bool) :
  (Instr.lookup t (.map (some m)) key c).run P w=.ok (if c then .tuple #[v,.bool true] else v) w:=by
 obtain ⟨es,clock,hb,F,hl⟩:=h
 rw [← hl] at hin
 obtain ⟨e1,he1,hkv⟩:=List.mem_map.1 hin
 unfold kv at hkv
 cases hkv
 rcases K.find w e1.key hk es.toList (keys_of hl hS) with ⟨h1,h2⟩ | ⟨j,e0,h1,h2,h3⟩
 ·exact absurd rfl (h2 e1 he1)
 ·have hp:=((stamped_iff es clock).1 F).2.2
  have hm0:e0 ∈ es.toList:=List.mem_of_getElem? h2
  have he:e0=e1:=by
   by_cases hne:e0=e1
   ·exact hne
   ·exfalso
    obtain ⟨i0,hi0,rfl⟩:=List.getElem_of_mem hm0
    obtain ⟨i1,hi1,rfl⟩:=List.getElem_of_mem he1
    rcases Nat.lt_trichotomy i0 i1 with h' | h' | h'
    ·exact (List.pairwise_iff_getElem.1 hp i0 i1 hi0 hi1 h') h3
    ·subst h'; exact hne rfl
    ·exact (List.pairwise_iff_getElem.1 hp i1 i0 hi1 hi0 h') h3.symm
  subst he
  simp [Instr.lookup,run_underlying ht,MapKept.run_getObj_map hb,K.check w _ _ hk,h1,Result.andThen]
theorem MapHas.once (h:MapHas w m kvs):kvs.Pairwise fun p q=>p.1≠q.1:=by
 obtain ⟨es,clock,hb,F,hl⟩:=h
 rw [← hl,List.pairwise_map]
 exact ((stamped_iff es clock).1 F).2.2
theorem MapHas.store_new (h:MapHas w m kvs) (K:KeyOk P k S) (hS:∀ p ∈ kvs,S p.1) (ht:P.underlying t=some (.map k e)) {key v:Value} (hk:S key) (hno:∀ p ∈ kvs,p.1≠key) :
  ∃ w',(Instr.mapUpdate t (.map (some m)) key v).run P w=.ok () w'∧MapHas w' m (kvs++[(key,v)])∧Turned m w w':=by
 obtain ⟨es,clock,hb,F,hl⟩:=h
 rcases K.find w key hk es.toList (keys_of hl hS) with ⟨h1,h2⟩ | ⟨j,e0,h1,h2,h3⟩
 ·refine ⟨setBlock w m (.map (es.push ⟨key,v,clock⟩) (clock + 1)),?_,⟨_,_,setBlock_same hb _,stamped_push F h2,?_⟩,Turned.set _ _ _⟩
  ·simp [Instr.mapUpdate,run_underlying ht,MapKept.run_getObj_map hb,K.check w false key hk,h1,MapKept.run_setObj_map _ hb,Result.andThen,setBlock]
  ·rw [Array.toList_push,List.map_append,hl]; rfl
 ·exact absurd h3 (hno (kv e0) (by rw [← hl]; exact List.mem_map_of_mem (List.mem_of_getElem? h2)))
theorem found_at {es:Array MapEntry} {clock:Nat} (F:Stamped es clock) {A B:List (Value × Value)} {key v:Value} (hl:es.toList.map kv=A++(key,v)::B) {j:Nat} {e0:MapEntry} (h2:es.toList[j]? = some e0) (h3:e0.key=key):j=A.length:=by
 have hp:(es.toList.map kv).Pairwise fun p q=>p.1≠q.1:=by rw [List.pairwise_map]; exact ((stamped_iff es clock).1 F).2.2
 have hj:(es.toList.map kv)[j]? = some (kv e0):=by rw [List.getElem?_map,h2]; rfl
 rw [hl] at hj hp
 have hA:(A++(key,v)::B)[A.length]? = some (key,v):=by simp
 obtain ⟨hj1,hj2⟩:=List.getElem?_eq_some_iff.1 hj
 obtain ⟨hA1,hA2⟩:=List.getElem?_eq_some_iff.1 hA
 have hne:=List.pairwise_iff_getElem.1 hp
 rcases Nat.lt_trichotomy j A.length with h' | h' | h'
 ·have:=hne j A.length hj1 hA1 h'
  rw [hj2,hA2] at this
  exact absurd h3 this
 ·exact h'
 ·have:=hne A.length j hA1 hj1 h'
  rw [hj2,hA2] at this
  exact absurd h3.symm this
theorem MapHas.store_old (h:MapHas w m kvs) (K:KeyOk P k S) (hS:∀ p ∈ kvs,S p.1) (ht:P.underlying t=some (.map k e)) {A B:List (Value × Value)} {key u v:Value} (hk:S key) (hin:kvs=A++(key,u)::B) :
  ∃ w',(Instr.mapUpdate t (.map (some m)) key v).run P w=.ok () w'∧MapHas w' m (A++(key,v)::B)∧Turned m w w':=by
 obtain ⟨es,clock,hb,F,hl⟩:=h
 rcases K.find w key hk es.toList (keys_of hl hS) with ⟨h1,h2⟩ | ⟨j,e0,h1,h2,h3⟩
 ·exfalso
  have:(key,u) ∈ es.toList.map kv:=by rw [hl,hin]; simp
  obtain ⟨e1,he1,hkv⟩:=List.mem_map.1 this
  unfold kv at hkv
  cases hkv
  exact h2 e1 he1 rfl
 ·have hjA:=found_at F (hl.trans hin) h2 h3
  have hj:es[j]? = some e0:=by simpa using h2
  have hkeyf:∀ e',es[j]? = some e'→({ e' with key:=key,val:=v }:MapEntry).key=e'.key:=fun e' he'=>by rw [hj] at he'; cases he'; exact h3.symm
  have hlist:(es.modify j (fun e'=>{ e' with key:=key,val:=v })).toList=es.toList.set j { e0 with key:=key,val:=v }:=by rw [Array.toList_modify,Go.ChangeMaps.modify_eq_set _ _ _ _ h2]
  refine ⟨setBlock w m (.map (es.modify j (fun e'=>{ e' with key:=key,val:=v })) clock),?_,⟨_,_,setBlock_same hb _,stamped_modify F _ _ (fun _ _=>rfl) (fun e' _ he'=>hkeyf e' he'),?_⟩,Turned.set _ _ _⟩
  ·simp [Instr.mapUpdate,run_underlying ht,MapKept.run_getObj_map hb,K.check w false key hk,h1,hj,h3,K.stays w key hk,MapKept.run_setObj_map _ hb,Result.andThen,setBlock]
  ·rw [hlist,List.map_set,hl,hin,hjA]
   show (A++(key,u)::B).set A.length (kv { e0 with key:=key,val:=v })=_
   rw [List.set_append]
   simp [kv]
theorem MapHas.drop (h:MapHas w m kvs) (K:KeyOk P k S) (hS:∀ p ∈ kvs,S p.1) (ht:P.underlying t=some (.map k e)) (ty:TypeId) {A B:List (Value × Value)} {key u:Value} (hk:S key) (hin:kvs=A++(key,u)::B) :
  ∃ w',(Builtin.delete_ #[t,k] ty #[.map (some m),key]).run P w=.ok (.tuple #[]) w'∧MapHas w' m (A++B)∧Turned m w w':=by
 obtain ⟨es,clock,hb,F,hl⟩:=h
 rcases K.find w key hk es.toList (keys_of hl hS) with ⟨h1,h2⟩ | ⟨j,e0,h1,h2,h3⟩
 ·exfalso
  have:(key,u) ∈ es.toList.map kv:=by rw [hl,hin]; simp
  obtain ⟨e1,he1,hkv⟩:=List.mem_map.1 this
  unfold kv at hkv
  cases hkv
  exact h2 e1 he1 rfl
 ·have hjA:=found_at F (hl.trans hin) h2 h3
  have hjl:j<es.toList.length:=(List.getElem?_eq_some_iff.1 h2).1
  have hjs:j<es.size:=by simpa using hjl
  have hsub:(es.eraseIdxIfInBounds j).toList=es.toList.eraseIdx j:=by
   unfold Array.eraseIdxIfInBounds
   rw [dif_pos hjs]
   simp
  refine ⟨setBlock w m (.map (es.eraseIdxIfInBounds j) clock),?_,⟨_,_,setBlock_same hb _,stamped_erase F j,?_⟩,Turned.set _ _ _⟩
  ·simp [Builtin.delete_,run_underlying ht,MapKept.run_getObj_map hb,K.check w _ key hk,h1,MapKept.run_setObj_map _ hb,Result.andThen,setBlock]
  ·rw [hsub,Go.ChangeMaps.map_eraseIdx,hl,hin,hjA]
   rw [List.eraseIdx_append_of_length_le (Nat.le_refl _)]
   simp
theorem MapHas.drop_none (h:MapHas w m kvs) (K:KeyOk P k S) (hS:∀ p ∈ kvs,S p.1) (ht:P.underlying t=some (.map k e)) (ty:TypeId) {key:Value} (hk:S key) (hno:∀ p ∈ kvs,p.1≠key) :
  ∃ w',(Builtin.delete_ #[t,k] ty #[.map (some m),key]).run P w=.ok (.tuple #[]) w'∧MapHas w' m kvs∧Turned m w w':=by
 obtain ⟨es,clock,hb,F,hl⟩:=h
 rcases K.find w key hk es.toList (keys_of hl hS) with ⟨h1,h2⟩ | ⟨j,e0,h1,h2,h3⟩
 ·refine ⟨setBlock w m (.map es clock),?_,⟨_,_,setBlock_same hb _,F,hl⟩,Turned.set _ _ _⟩
  simp [Builtin.delete_,run_underlying ht,MapKept.run_getObj_map hb,K.check w _ key hk,h1,MapKept.run_setObj_map _ hb,Result.andThen,setBlock]
 ·exact absurd h3 (hno (kv e0) (by rw [← hl]; exact List.mem_map_of_mem (List.mem_of_getElem? h2)))
theorem MapHas.len (h:MapHas w m kvs) (ht:P.underlying t=some (.map k e)) (ty:TypeId):(Builtin.len_ #[t] ty #[.map (some m)]).run P w=.ok (.int .i64 kvs.length) w:=by
 obtain ⟨es,clock,hb,F,hl⟩:=h
 have e1:kvs.length=es.size:=by rw [← hl]; simp
 rw [e1]
 simp [Builtin.len_,run_underlying ht,MapKept.run_getObj_map hb,goInt,Result.andThen]
def Ranging (w:World) (m r:Nat) (kvs left:List (Value × Value)):Prop :=
 ∃ es clock since seen c0,w.heap[m]? = some (.map es clock)∧Stamped es clock∧es.toList.map kv=kvs∧w.heap[r]? = some (.mapIter (some m) since seen c0)∧(∀ x ∈ es.toList,x.born<since)∧since≤c0∧since≤clock∧(leftOf es seen).toList.map kv=left
theorem Ranging.map {r:Nat} {left:List (Value × Value)} (h:Ranging w m r kvs left):MapHas w m kvs:=by
 obtain ⟨es,clock,since,seen,c0,hb,F,hl,_⟩:=h
 exact ⟨es,clock,hb,F,hl⟩
theorem Ranging.lt {r:Nat} {left:List (Value × Value)} (h:Ranging w m r kvs left):r<w.heap.size:=by
 obtain ⟨es,clock,since,seen,c0,_,_,_,hr,_⟩:=h
 exact (Array.getElem?_eq_some_iff.1 hr).1
theorem Ranging.ne {r:Nat} {left:List (Value × Value)} (h:Ranging w m r kvs left):m≠r:=by
 obtain ⟨es,clock,since,seen,c0,hb,_,_,hr,_⟩:=h
 rintro rfl
 rw [hb] at hr
 cases hr
theorem Ranging.keep {Z:Nat→Prop} {w':World} {r:Nat} {left:List (Value × Value)} (h:Ranging w m r kvs left) (q:Keep Z w w') (hm:¬ Z m) (hr:¬ Z r):Ranging w' m r kvs left:=by
 have h1:=h.map.lt
 have h2:=h.lt
 obtain ⟨es,clock,since,seen,c0,hb,F,hl,hr',rest⟩:=h
 exact ⟨es,clock,since,seen,c0,by rw [q.block m h1 hm]; exact hb,F,hl,by rw [q.block r h2 hr]; exact hr',rest⟩
theorem Ranging.below {w':World} {r:Nat} {left:List (Value × Value)} (h:Ranging w m r kvs left) (q:Below w.heap.size w w'):Ranging w' m r kvs left:=by
 have h1:=h.map.lt
 have h2:=h.lt
 obtain ⟨es,clock,since,seen,c0,hb,F,hl,hr',rest⟩:=h
 exact ⟨es,clock,since,seen,c0,by rw [q.block m h1]; exact hb,F,hl,by rw [q.block r h2]; exact hr',rest⟩
theorem MapHas.range (h:MapHas w m kvs) (ht:P.underlying t=some (.map k e)):∃ w',(Instr.range t (.map (some m))).run P w=.ok (.pointer (some ⟨w.heap.size,0,none⟩)) w'∧Ranging w' m w.heap.size kvs kvs∧Below w.heap.size w w':=by
 have hlt:=h.lt
 obtain ⟨es,clock,hb,F,hl⟩:=h
 refine ⟨_,run_range_map w t k e m es clock ht hb,⟨es,clock,clock,#[],clock,by rw [heap_alloc_old w _ hlt]; exact hb,F,hl,heap_alloc_new w _,((stamped_iff es clock).1 F).1,Nat.le_refl _,Nat.le_refl _,?_⟩,(Below.refl _ _).alloc (Nat.le_refl _) _⟩
 rw [← hl]
 congr 1
 unfold leftOf
 simp
theorem left_push {es:Array MapEntry} {clock:Nat} (F:Stamped es clock) {seen:Array Nat} {e0:MapEntry} (he:e0 ∈ (leftOf es seen).toList) :
  ∃ A B,(leftOf es seen).toList=A++e0::B∧(leftOf es (seen.push e0.born)).toList=A++B:=by
 have hn:((leftOf es seen).toList.map (·.born)).Nodup:=by
  have h1:=((stamped_iff es clock).1 F).2.1
  unfold leftOf
  rw [Array.toList_filter]
  exact h1.sublist (List.Sublist.map _ List.filter_sublist)
 obtain ⟨A,B,hAB⟩:=List.append_of_mem he
 refine ⟨A,B,hAB,?_⟩
 have e1:(leftOf es (seen.push e0.born)).toList=(leftOf es seen).toList.filter fun x=>!(x.born==e0.born):=by
  unfold leftOf
  rw [Array.toList_filter,Array.toList_filter,List.filter_filter]
  congr 1
  funext x
  rw [contains_push]
  cases seen.contains x.born <;> cases (x.born==e0.born) <;> rfl
 rw [e1,hAB,List.filter_append,List.filter_cons]
 rw [hAB,List.map_append,List.map_cons] at hn
 have h2:=List.nodup_append.1 hn
 have hA:∀ x ∈ A,x.born≠e0.born:=fun x hx heq=>(h2.2.2 x.born (List.mem_map_of_mem hx) e0.born (by simp)) heq
 have hB:∀ x ∈ B,x.born≠e0.born:=fun x hx heq=>(List.nodup_cons.1 h2.2.1).1 (by rw [← heq]; exact List.mem_map_of_mem hx)
 rw [List.filter_eq_self.2 (fun x hx=>by simpa using hA x hx),List.filter_eq_self.2 (fun x hx=>by simpa using hB x hx)]
 simp
theorem Ranging.next {r:Nat} {left:List (Value × Value)} (h:Ranging w m r kvs left) (ty:TypeId) :
  (left=[]∧(Instr.next (.pointer (some ⟨r,0,none⟩)) false ty).run P w=.ok (.tuple #[.bool false]) w) ∨
  ∃ A x B w',left=A++x::B∧(Instr.next (.pointer (some ⟨r,0,none⟩)) false ty).run P w=.ok (.tuple #[.bool true,x.1,x.2]) w'∧Ranging w' m r kvs (A++B)∧Turned r w w'∧(Instr.entry (.pointer (some ⟨r,0,none⟩))).run P w'=.ok (.tuple #[x.1,x.2]) w':=by
 have hne:=h.ne
 obtain ⟨es,clock,since,seen,c0,hb,F,hl,hr,hold,hsc,hsk,hleft⟩:=h
 rcases run_next_at (P:=P) w ty r m since c0 seen es clock hr hb hold hsc with ⟨h0,hrun⟩ | ⟨e0,he,w1,hal,hrun⟩
 ·refine .inl ⟨?_,hrun⟩
  rw [← hleft]
  have:(leftOf es seen).toList=[]:=by simpa using h0
  rw [this]; rfl
 ·obtain ⟨A,B,hAB,hpush⟩:=left_push F he
  have hmem:e0 ∈ es.toList:=(mem_left he).1
  have hr1:w1.heap[r]? = some (.mapIter (some m) since seen c0):=by rcases hal with rfl | rfl <;> exact hr
  have hb1:w1.heap[m]? = some (.map es clock):=by rcases hal with rfl | rfl <;> exact hb
  have hb':(setBlock w1 r (.mapIter (some m) since (seen.push e0.born) clock)).heap[m]? = some (.map es clock):=by rw [setBlock_other _ hne]; exact hb1
  have hrs:(setBlock w1 r (.mapIter (some m) since (seen.push e0.born) clock)).heap[r]? = some (.mapIter (some m) since (seen.push e0.born) clock):=setBlock_same hr1 _
  refine .inr ⟨A.map kv,kv e0,B.map kv,_,by rw [← hleft,hAB]; simp,hrun,⟨es,clock,since,seen.push e0.born,clock,hb',F,hl,hrs,hold,hsk,hsk,by rw [hpush]; simp⟩,?_,run_entry_at _ r m since seen es clock e0 hrs hb' hmem ((stamped_iff es clock).1 F).2.1⟩
  have ht:=Turned.set w1 r (.mapIter (some m) since (seen.push e0.born) clock)
  rcases hal with rfl | rfl
  ·exact ht
  ·exact ⟨ht.os,ht.tape,ht.output,ht.size,ht.block⟩
end
end Go.Proofs.YtngnfdnfpiiclaaGreat
namespace Go.Proofs.YtngnfdnfpiiclaaGreat
open Go.RowKit
theorem endsRow:(188:TypeId)<Tryz.prog.types.size:=of_decide_eq_true (by kernel_rfl)
theorem dumpLaid:laidOutB Tryz.prog=true:=by kernel_rfl
theorem endsLaw:Go.WideMaps.KeyLaw Tryz.prog 188:=deep_law_laid dumpLaid (m:=2) (by omega) endsRow (by kernel_rfl) (by rw [Tryz.underlying188])
def endsV (a b c:Int):Value:=.agg #[.int .u8 a,.int .u8 b,.int .u8 c]
def amtV (l d:Int):Value:=.agg #[.int .i64 l,.int .i64 d]
def U8 (n:Int):Prop:=0≤n∧n≤255
def IsEnds (v:Value):Prop:=∃ a b c,v=endsV a b c∧U8 a∧U8 b∧U8 c
theorem endsV_inj {a b c a' b' c':Int} (h:endsV a b c=endsV a' b' c'):a=a'∧b=b'∧c=c':=by
 unfold endsV at h
 simp at h
 exact h
theorem keyLits_u8 {P:Program} {t:TypeId} (ht:P.underlying t=some (.int .u8)) (n:Nat) (a:Int) (w:(Lit.int .u8 a).wf=true):P.keyLits (n + 1) t [.int .u8 a]=some [.int .u8 a]:=by
 unfold Program.keyLits
 rw [ht]
 simp [w]
theorem u8_wf {a:Int} (h:U8 a):(Lit.int .u8 a).wf=true:=by
 obtain ⟨a1,a2⟩:=h
 simp [Lit.wf,IntKind.min,IntKind.max,IntKind.signed,IntKind.bits]; omega
theorem keyLits_ends (n:Nat) (a b c:Int) (wa:(Lit.int .u8 a).wf=true) (wb:(Lit.int .u8 b).wf=true) (wc:(Lit.int .u8 c).wf=true):Tryz.prog.keyLits (n + 1 + 1) 188 [.int .u8 a,.int .u8 b,.int .u8 c]=some [.int .u8 a,.int .u8 b,.int .u8 c]:=by
 have hs:Tryz.prog.cellsOf 188=3:=by kernel_rfl
 have h1:Tryz.prog.cellsOf 68=1:=by kernel_rfl
 have h2:Tryz.prog.cellsOf 69=1:=by kernel_rfl
 have l1:=keyLits_u8 Tryz.underlying68 n a wa
 have l2:=keyLits_u8 Tryz.underlying68 n b wb
 have l3:=keyLits_u8 Tryz.underlying69 n c wc
 have hu:=Tryz.underlying188
 rw [Program.keyLits.eq_def]
 dsimp only
 rw [hu]
 dsimp only
 generalize Tryz.prog=P at *
 simp [hs,h1,h2,l1,l2,l3]
theorem ends_keyOf (a b c:Int) (ha:U8 a) (hb:U8 b) (hc:U8 c):∃ l,keyOf Tryz.prog 188 (endsV a b c)=some l:=by
 have hk:Tryz.prog.keyType 188=true:=by kernel_rfl
 have hs:Tryz.prog.cellsOf 188=3:=by kernel_rfl
 obtain ⟨n,hn⟩:∃ n,Tryz.prog.types.size + 1=n + 1 + 1:=by
  have h0:0<Tryz.prog.types.size:=Nat.lt_of_le_of_lt (Nat.zero_le _) endsRow
  exact ⟨Tryz.prog.types.size - 1,by omega⟩
 have hl:=keyLits_ends n a b c (u8_wf ha) (u8_wf hb) (u8_wf hc)
 have hu:=Tryz.underlying188
 have hf:(endsV a b c).formed Tryz.prog 188=true:=by simp [Value.formed,endsV,hu,hs]
 refine ⟨.string (keyBytes [.int .u8 a,.int .u8 b,.int .u8 c]),?_⟩
 unfold keyOf
 rw [hu]
 dsimp only
 rw [hk,hf,hn,show (endsV a b c).cells.toList=[.int .u8 a,.int .u8 b,.int .u8 c] from rfl,hl]
 rfl
theorem endsOk:KeyOk Tryz.prog 188 IsEnds:=KeyOk.of_keyed (Go.Maps.Keyed.of_law endsLaw) fun v ⟨a,b,c,e,ha,hb,hc⟩=>by subst e; exact ends_keyOf a b c ha hb hc
theorem zeroAmt (w:World):(zeroValue 190).run Tryz.prog w=.ok (amtV 0 0) w:=by kernel_rfl
end Go.Proofs.YtngnfdnfpiiclaaGreat
namespace Go.Proofs.YtngnfdnfpiiclaaGreat
open Go.RowKit
theorem In8.u8 {n:Int} (h:In8 n):U8 n:=h
def lnKV (x:Ln):Value × Value:=(endsV x.cr x.de x.cu,amtV x.li x.db)
def MapIs (w:World) (m:Nat) (ls:List Ln):Prop:=∃ ms:List Ln,MapHas w m (ms.map lnKV)∧ms.Perm ls
theorem MapIs.lt {w:World} {m:Nat} {ls:List Ln} (h:MapIs w m ls):m<w.heap.size:=by obtain ⟨ms,h1,_⟩:=h; exact h1.lt
theorem MapIs.keep {S:Nat→Prop} {w w':World} {m:Nat} {ls:List Ln} (h:MapIs w m ls) (k:Keep S w w') (hs:¬ S m):MapIs w' m ls:=by obtain ⟨ms,h1,h2⟩:=h; exact ⟨ms,h1.keep k hs,h2⟩
theorem MapIs.below {w w':World} {B m:Nat} {ls:List Ln} (h:MapIs w m ls) (k:Below B w w') (hm:m<B):MapIs w' m ls:=by obtain ⟨ms,h1,h2⟩:=h; exact ⟨ms,h1.below k hm,h2⟩
theorem MapIs.ne_blk {w:World} {m g:Nat} {ls:List Ln} {cs:Array Value} {t:TypeId} (h:MapIs w m ls) (b:Blk w g cs t):m≠g:=by obtain ⟨ms,h1,_⟩:=h; exact h1.ne_blk b
theorem MapIs.made (w:World):MapIs (w.alloc (.map #[] 0)) w.heap.size []:=⟨[],MapHas.made w,List.Perm.refl _⟩
section
variable {w:World} {m:Nat} {ls:List Ln}
theorem kvs_ends {ms:List Ln} (hp:ms.Perm ls) (hI:Inv ls):∀ p ∈ ms.map lnKV,IsEnds p.1:=by
 intro p hp'
 obtain ⟨x,hx,rfl⟩:=List.mem_map.1 hp'
 have hf:=(hI.good x (hp.mem_iff.1 hx)).fits
 exact ⟨_,_,_,rfl,hf.cr,hf.de,hf.cu⟩
theorem kvs_no {ms:List Ln} (hp:ms.Perm ls) {a b c:Int} (hl:lineL ls a b c=none):∀ p ∈ ms.map lnKV,p.1≠endsV a b c:=by
 intro p hp' he
 obtain ⟨x,hx,rfl⟩:=List.mem_map.1 hp'
 obtain ⟨e1,e2,e3⟩:=endsV_inj he
 exact (line_none a b c).1 hl x (hp.mem_iff.1 hx) ⟨e1,e2,e3⟩
theorem MapIs.look (h:MapIs w m ls) (hI:Inv ls) {a b c:Int} (ha:U8 a) (hb:U8 b) (hc:U8 c) :
  (Instr.lookup 152 (.map (some m)) (endsV a b c) true).run Tryz.prog w=.ok (.tuple #[amtV (lnAt ls a b c).li (lnAt ls a b c).db,.bool (lineL ls a b c).isSome]) w ∧
  (Instr.lookup 152 (.map (some m)) (endsV a b c) false).run Tryz.prog w=.ok (amtV (lnAt ls a b c).li (lnAt ls a b c).db) w:=by
 obtain ⟨ms,h1,hp⟩:=h
 have hk:IsEnds (endsV a b c):=⟨a,b,c,rfl,ha,hb,hc⟩
 cases hl:lineL ls a b c with
 | none =>
  rw [lnAt_none hl]
  have q:=fun o=>h1.look_none endsOk (kvs_ends hp hI) Tryz.underlying152 (zeroAmt w) hk (kvs_no hp hl) o
  exact ⟨q true,q false⟩
 | some x =>
  rw [lnAt_some hl]
  obtain ⟨hm,e1,e2,e3⟩:=lineL_mem hl
  have hin:(endsV a b c,amtV x.li x.db) ∈ ms.map lnKV:=List.mem_map.2 ⟨x,hp.mem_iff.2 hm,by unfold lnKV; rw [e1,e2,e3]⟩
  have q:=fun o=>h1.look_some endsOk (kvs_ends hp hI) Tryz.underlying152 hk hin o
  exact ⟨q true,q false⟩
theorem MapIs.len (h:MapIs w m ls) (ty:TypeId):(Builtin.len_ #[152] ty #[.map (some m)]).run Tryz.prog w=.ok (.int .i64 ls.length) w:=by
 obtain ⟨ms,h1,hp⟩:=h
 have:=h1.len (P:=Tryz.prog) Tryz.underlying152 ty
 rwa [List.length_map,hp.length_eq] at this
theorem eqL_some (hI:Inv ls) {x:Ln} (hx:x ∈ ls):eqL x.rank ls=[x]:=by
 have hmem:x ∈ eqL x.rank ls:=by unfold eqL; exact List.mem_filter.2 ⟨hx,by simp⟩
 have hp:(eqL x.rank ls).Pairwise fun x y=>x.rank<y.rank:=by unfold eqL; exact List.Pairwise.filter _ hI.sorted
 have hall:∀ z ∈ eqL x.rank ls,z.rank=x.rank:=fun z hz=>by unfold eqL at hz; simpa using (List.mem_filter.1 hz).2
 generalize eqL x.rank ls=B at *
 match B,hmem,hp,hall with
 | [z],hmem,_,_=>rw [List.mem_singleton] at hmem; subst hmem; rfl
 | z::u::r,_,hp,hall =>
  have a1:=hall z (by simp)
  have a2:=hall u (by simp)
  have a3:=(List.pairwise_cons.1 hp).1 u (by simp)
  omega
theorem eqL_none (hI:Inv ls) {x:Ln} (hf:x.Fits) (hl:lineL ls x.cr x.de x.cu=none):eqL x.rank ls=[]:=by
 unfold eqL
 rw [List.filter_eq_nil_iff]
 intro y hy
 have h1:=(line_none (ls:=ls) x.cr x.de x.cu).1 hl y hy
 intro hr
 exact h1 (rank_inj (hI.good y hy).fits hf (by simpa using hr))
theorem MapIs.store (h:MapIs w m ls) (hI:Inv ls) {x:Ln} (hf:x.Fits) (h0:x.li≠0) :
  ∃ w',(Instr.mapUpdate 152 (.map (some m)) (endsV x.cr x.de x.cu) (amtV x.li x.db)).run Tryz.prog w=.ok () w'∧MapIs w' m (setL ls x)∧Turned m w w':=by
 obtain ⟨ms,h1,hp⟩:=h
 have hk:IsEnds (endsV x.cr x.de x.cu):=⟨_,_,_,rfl,hf.cr,hf.de,hf.cu⟩
 have hset:=setL_eq hI.sorted x
 have hsp:=split_sorted x.rank ls hI.sorted
 rw [if_neg h0] at hset
 cases hl:lineL ls x.cr x.de x.cu with
 | none =>
  rw [eqL_none hI hf hl,List.nil_append] at hsp
  obtain ⟨w',hr,hm,ht⟩:=h1.store_new (v:=amtV x.li x.db) endsOk (kvs_ends hp hI) Tryz.underlying152 hk (kvs_no hp hl)
  refine ⟨w',hr,⟨ms++[x],by rw [List.map_append]; exact hm,?_⟩,ht⟩
  rw [hset]
  refine (List.perm_append_singleton x ms).trans ((hp.cons x).trans ?_)
  conv=>lhs; rw [hsp]
  exact List.perm_middle.symm
 | some y =>
  obtain ⟨hm,e1,e2,e3⟩:=lineL_mem hl
  have hr0:y.rank=x.rank:=rank_of e1 e2 e3
  have heq:=eqL_some hI hm
  rw [hr0] at heq
  rw [heq] at hsp
  obtain ⟨A,B,hAB⟩:=List.append_of_mem (hp.mem_iff.2 hm)
  subst hAB
  obtain ⟨w',hr,hmm,ht⟩:=h1.store_old (A:=A.map lnKV) (B:=B.map lnKV) (u:=amtV y.li y.db) (v:=amtV x.li x.db) endsOk (kvs_ends hp hI) Tryz.underlying152 hk (by rw [List.map_append,List.map_cons,show lnKV y=(endsV x.cr x.de x.cu,amtV y.li y.db) by unfold lnKV; rw [e1,e2,e3]])
  refine ⟨w',hr,⟨A++x::B,by rw [List.map_append,List.map_cons]; exact hmm,?_⟩,ht⟩
  rw [hset]
  have hp2:(y::(A++B)).Perm (y::(loL x.rank ls++hiL x.rank ls)):=by
   refine List.perm_middle.symm.trans (hp.trans ?_)
   conv=>lhs; rw [hsp]
   exact List.perm_middle
  exact List.perm_middle.trans ((hp2.cons_inv.cons x).trans List.perm_middle.symm)
theorem MapIs.drop (h:MapIs w m ls) (hI:Inv ls) (ty:TypeId) {x:Ln} (hf:x.Fits) (h0:x.li=0) :
  ∃ w',(Builtin.delete_ #[152,188] ty #[.map (some m),endsV x.cr x.de x.cu]).run Tryz.prog w=.ok (.tuple #[]) w'∧MapIs w' m (setL ls x)∧Turned m w w':=by
 obtain ⟨ms,h1,hp⟩:=h
 have hk:IsEnds (endsV x.cr x.de x.cu):=⟨_,_,_,rfl,hf.cr,hf.de,hf.cu⟩
 have hset:=setL_eq hI.sorted x
 have hsp:=split_sorted x.rank ls hI.sorted
 rw [if_pos h0,List.nil_append] at hset
 cases hl:lineL ls x.cr x.de x.cu with
 | none =>
  rw [eqL_none hI hf hl,List.nil_append] at hsp
  obtain ⟨w',hr,hm,ht⟩:=h1.drop_none endsOk (kvs_ends hp hI) Tryz.underlying152 ty hk (kvs_no hp hl)
  exact ⟨w',hr,⟨ms,hm,by rw [hset,← hsp]; exact hp⟩,ht⟩
 | some y =>
  obtain ⟨hm,e1,e2,e3⟩:=lineL_mem hl
  have hr0:y.rank=x.rank:=rank_of e1 e2 e3
  have heq:=eqL_some hI hm
  rw [hr0] at heq
  rw [heq] at hsp
  obtain ⟨A,B,hAB⟩:=List.append_of_mem (hp.mem_iff.2 hm)
  subst hAB
  obtain ⟨w',hr,hmm,ht⟩:=h1.drop (A:=A.map lnKV) (B:=B.map lnKV) (u:=amtV y.li y.db) endsOk (kvs_ends hp hI) Tryz.underlying152 ty hk (by rw [List.map_append,List.map_cons,show lnKV y=(endsV x.cr x.de x.cu,amtV y.li y.db) by unfold lnKV; rw [e1,e2,e3]])
  refine ⟨w',hr,⟨A++B,by rw [List.map_append]; exact hmm,?_⟩,ht⟩
  rw [hset]
  have hp2:(y::(A++B)).Perm (y::(loL x.rank ls++hiL x.rank ls)):=by
   refine List.perm_middle.symm.trans (hp.trans ?_)
   conv=>lhs; rw [hsp]
   exact List.perm_middle
  exact hp2.cons_inv
def RangeIs (w:World) (m r:Nat) (ls done:List Ln):Prop :=
 ∃ ms left:List Ln,Ranging w m r (ms.map lnKV) (left.map lnKV)∧ms.Perm ls∧(done++left).Perm ls
theorem RangeIs.lt {r:Nat} {done:List Ln} (h:RangeIs w m r ls done):r<w.heap.size:=by obtain ⟨ms,left,h1,_⟩:=h; exact h1.lt
theorem RangeIs.len {r:Nat} {done:List Ln} (h:RangeIs w m r ls done):done.length≤ls.length:=by
 obtain ⟨ms,left,_,_,h3⟩:=h
 have:=h3.length_eq
 rw [List.length_append] at this
 omega
theorem RangeIs.sub {r:Nat} {done:List Ln} (h:RangeIs w m r ls done):∀ x ∈ done,x ∈ ls:=by
 obtain ⟨ms,left,_,_,h3⟩:=h
 exact fun x hx=>h3.mem_iff.1 (List.mem_append_left _ hx)
theorem RangeIs.below {w':World} {r:Nat} {done:List Ln} (h:RangeIs w m r ls done) (q:Below w.heap.size w w'):RangeIs w' m r ls done:=by
 obtain ⟨ms,left,h1,h2⟩:=h
 exact ⟨ms,left,h1.below q,h2⟩
theorem RangeIs.keep {Z:Nat→Prop} {w':World} {r:Nat} {done:List Ln} (h:RangeIs w m r ls done) (q:Keep Z w w') (hm:¬ Z m) (hr:¬ Z r):RangeIs w' m r ls done:=by
 obtain ⟨ms,left,h1,h2⟩:=h
 exact ⟨ms,left,h1.keep q hm hr,h2⟩
theorem MapIs.range (h:MapIs w m ls):∃ w',(Instr.range 152 (.map (some m))).run Tryz.prog w=.ok (.pointer (some ⟨w.heap.size,0,none⟩)) w'∧RangeIs w' m w.heap.size ls []∧Below w.heap.size w w':=by
 obtain ⟨ms,h1,hp⟩:=h
 obtain ⟨w',a,b,c⟩:=h1.range (P:=Tryz.prog) Tryz.underlying152
 exact ⟨w',a,⟨ms,ms,b,hp,hp⟩,c⟩
theorem RangeIs.next {r:Nat} {done:List Ln} (h:RangeIs w m r ls done) (ty:TypeId) :
  (done.Perm ls∧(Instr.next (.pointer (some ⟨r,0,none⟩)) false ty).run Tryz.prog w=.ok (.tuple #[.bool false]) w) ∨
  ∃ x w',x ∈ ls∧(Instr.next (.pointer (some ⟨r,0,none⟩)) false ty).run Tryz.prog w=.ok (.tuple #[.bool true,endsV x.cr x.de x.cu,amtV x.li x.db]) w'∧RangeIs w' m r ls (done++[x])∧Turned r w w' ∧
   (Instr.entry (.pointer (some ⟨r,0,none⟩))).run Tryz.prog w'=.ok (.tuple #[endsV x.cr x.de x.cu,amtV x.li x.db]) w':=by
 obtain ⟨ms,left,h1,hp,hd⟩:=h
 rcases h1.next (P:=Tryz.prog) ty with ⟨h0,hr⟩ | ⟨A,q,B,w',hl,hr,hrg,ht,hen⟩
 ·refine .inl ⟨?_,hr⟩
  have:left=[]:=by simpa using h0
  rw [this,List.append_nil] at hd
  exact hd
 ·obtain ⟨A',l2,rfl,rfl,h2⟩:=List.map_eq_append_iff.1 hl
  obtain ⟨x,B',rfl,rfl,rfl⟩:=List.map_eq_cons_iff.1 h2
  refine .inr ⟨x,w',hd.mem_iff.1 (by simp),hr,⟨ms,A'++B',by rw [List.map_append]; exact hrg,hp,?_⟩,ht,hen⟩
  refine List.Perm.trans ?_ hd
  rw [List.append_assoc]
  exact List.Perm.append_left done (List.perm_middle (a:=x) (l₁:=A') (l₂:=B')).symm
end
end Go.Proofs.YtngnfdnfpiiclaaGreat
