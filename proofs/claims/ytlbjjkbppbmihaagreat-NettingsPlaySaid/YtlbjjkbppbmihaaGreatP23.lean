/-
  Pieces of one proof, without what is not wanted: Pages, NettingsPlay, BelowD.
-/
import Derived.Test.YtlbjjkbppbmihaaGreatP01
import Derived.Test.YtlbjjkbppbmihaaGreatP04
import Derived.Test.YtlbjjkbppbmihaaGreatP19
import Derived.Test.YtlbjjkbppbmihaaGreatP21
import Derived.Test.YtlbjjkbppbmihaaGreatP22
import Derived.LoopN
import Derived.Sort.Grow
set_option linter.unusedSimpArgs false
set_option linter.unusedVariables false
namespace Go.Proofs.YtlbjjkbppbmihaaGreat
open Go.RowKit
set_option maxHeartbeats 2000000 in
theorem writeF_nil (m q:Fw) (w:World) :
  Calls Tryz.prog 149 #[.agg #[.slice none 0 0,.int .u8 m.fr,.int .u8 m.tt,.int .i64 m.am,.int .u8 q.fr,.int .u8 q.tt,.int .i64 q.am]] w fun e w'=>e=.returned (.tuple #[])∧Below w.heap.size w w':=by
 have B0:=Lib.hid ((Below.refl w.heap.size w).alloc (Nat.le_refl _) (.cells #[.slice none 0 0,.int .u8 m.fr,.int .u8 m.tt,.int .i64 m.am,.int .u8 q.fr,.int .u8 q.tt,.int .i64 q.am] 81))
 go_enter Tryz.func149,Tryz.ntmps149
 go_wp2
 refine wp_loop_rounds 1 ?_
 rw [rounds_succ]; go_wp2
 go_end0
 exact ⟨rfl,B0.out⟩
set_option maxHeartbeats 2000000 in
theorem behindF_nil (m q:Fw) (w:World) :
  Calls Tryz.prog 150 #[.agg #[.slice none 0 0,.int .u8 m.fr,.int .u8 m.tt,.int .i64 m.am,.int .u8 q.fr,.int .u8 q.tt,.int .i64 q.am]] w fun e w'=>e=.returned (.tuple #[])∧Below w.heap.size w w':=by
 have B0:=Lib.hid ((Below.refl w.heap.size w).alloc (Nat.le_refl _) (.cells #[.slice none 0 0,.int .u8 m.fr,.int .u8 m.tt,.int .i64 m.am,.int .u8 q.fr,.int .u8 q.tt,.int .i64 q.am] 81))
 go_enter Tryz.func150,Tryz.ntmps150
 go_wp2
 refine wp_loop_rounds 1 ?_
 rw [rounds_succ]; go_wp2
 go_end0
 exact ⟨rfl,B0.out⟩
set_option maxHeartbeats 2000000 in
theorem standsF_nil (m q:Fw) (w:World) :
  Calls Tryz.prog 148 #[.agg #[.slice none 0 0,.int .u8 m.fr,.int .u8 m.tt,.int .i64 m.am,.int .u8 q.fr,.int .u8 q.tt,.int .i64 q.am]] w fun e w'=>e=.returned (.bool true)∧Below w.heap.size w w':=by
 have B0:=Lib.hid ((Below.refl w.heap.size w).alloc (Nat.le_refl _) (.cells #[.slice none 0 0,.int .u8 m.fr,.int .u8 m.tt,.int .i64 m.am,.int .u8 q.fr,.int .u8 q.tt,.int .i64 q.am] 81))
 go_enter Tryz.func148,Tryz.ntmps148
 go_wp2
 refine wp_loop_rounds 1 ?_
 rw [rounds_succ]; go_wp2
 go_ret
 exact ⟨rfl,B0.out⟩
inductive Pg where
 | flow (v:Value) (n c:Nat) (m q:Fw)
def Pg.slice:Pg→Value
 | .flow v ..=>v
def Pg.agg:Pg→Value
 | .flow v n c m q=>.agg #[v,.int .u8 m.fr,.int .u8 m.tt,.int .i64 m.am,.int .u8 q.fr,.int .u8 q.tt,.int .i64 q.am]
def Pg.kind:Pg→TypeId
 | .flow ..=>81
def Pg.elem:Pg→TypeId
 | .flow ..=>62
def Pg.n:Pg→Nat
 | .flow _ n ..=>n
def Pg.c:Pg→Nat
 | .flow _ _ c ..=>c
def Pg.size:Pg→Nat
 | .flow ..=>3
def Pg.mark:Pg→Nat→Value
 | .flow _ _ _ m _=>fwMk m
def Pg.behind:Pg→Nat→Value
 | .flow _ _ _ _ q=>fwMk q
def Pg.Mem (w:World) (p:Pg) (cs:Array Value):Prop :=
 p.n≤p.c∧p.c≤maxLen∧p.c * p.size≤cs.size∧((p.slice=.slice none 0 0∧p.n=0∧p.c=0)∨∃ b,p.slice=.slice (some ⟨b,0,none⟩) p.n p.c∧Blk w b cs p.elem)
def Pg.Front (p:Pg) (cs:Array Value):Prop:=∀ j,j<p.n * p.size→cs[j]? = some (p.mark (j % p.size))
def Pg.Back (p:Pg) (cs:Array Value):Prop:=∀ j,p.n * p.size≤j→j<p.c * p.size→cs[j]? = some (p.behind (j % p.size))
def Pg.own (p:Pg) (b:Nat):Prop:=p.slice.ownBlock=some b
theorem Pg.Mem.keep {S:Nat→Prop} {w w':World} {p:Pg} {cs:Array Value} (h:p.Mem w cs) (k:Keep S w w') (hs:∀ b,p.own b→¬ S b):p.Mem w' cs:=by
 obtain ⟨h1,h2,h3,h4⟩:=h
 refine ⟨h1,h2,h3,?_⟩
 rcases h4 with h4 | ⟨b,hv,hb⟩
 ·exact .inl h4
 ·exact .inr ⟨b,hv,hb.keep k (hs b (by unfold Pg.own; rw [hv]; rfl))⟩
theorem Pg.Mem.own {w:World} {p:Pg} {cs:Array Value} (h:p.Mem w cs) {b:Nat} (hb:p.own b):b<w.heap.size∧∃ cur,w.heap[b]? = some (.cells cur p.elem (0,0)):=by
 obtain ⟨_,_,_,h4⟩:=h
 rcases h4 with ⟨hv,_⟩ | ⟨b',hv,hb'⟩
 ·unfold Pg.own at hb; rw [hv] at hb; cases hb
 ·unfold Pg.own at hb; rw [hv] at hb; cases hb; exact ⟨hb'.lt,cs,hb'.out⟩
theorem fill_front (s:Nat) (hs:0<s) (mk:Nat→Value) (cs:Array Value) (n j:Nat) (h:n * s≤cs.size) (hj:j<n * s):(fill s mk cs 0 n)[j]? = some (mk (j % s)):=by
 rw [fill_get _ _ _ _ _ _ (by omega),if_pos (by omega)]
theorem fill_back (s:Nat) (mk:Nat→Value) (cs:Array Value) (n c j:Nat) (h:c * s≤cs.size) (h1:n * s≤j) (h2:j<c * s):(fill s mk cs n c)[j]? = some (mk (j % s)):=by
 rw [fill_get _ _ _ _ _ _ (by omega),if_pos ⟨h1,h2⟩]
theorem fill_keep (s:Nat) (mk:Nat→Value) (cs:Array Value) (n c j:Nat) (h1:j<n * s):(fill s mk cs n c)[j]? = cs[j]? := by
 by_cases h:j<cs.size
 ·rw [fill_get _ _ _ _ _ _ h,if_neg (by omega),Array.getElem?_eq_getElem h]
 ·rw [Array.getElem?_eq_none (by rw [fill_size]; omega),Array.getElem?_eq_none (by omega)]
def Pg.writeF:Pg→FuncId
 | .flow ..=>149
def Pg.behindF:Pg→FuncId
 | .flow ..=>150
def Pg.standsF:Pg→FuncId
 | .flow ..=>148
def Wrote (w:World) (p:Pg) (e:Ending) (w':World):Prop:=e=.returned (.tuple #[])∧∃ cs',p.Mem w' cs'∧p.Front cs'∧Keep p.own w w'
def WroteBehind (w:World) (p:Pg) (e:Ending) (w':World):Prop:=e=.returned (.tuple #[])∧∃ cs',p.Mem w' cs'∧p.Front cs'∧p.Back cs'∧Keep p.own w w'
theorem own_is {v:Value} {b n c:Nat} (h:v=.slice (some ⟨b,0,none⟩) n c):∀ k,(fun x=>x=b) k→v.ownBlock=some k:=by rintro k rfl; rw [h]; rfl
theorem write_pg {w:World} {p:Pg} {cs:Array Value} (h:p.Mem w cs):Calls Tryz.prog p.writeF #[p.agg] w (Wrote w p):=by
 obtain ⟨h1,h2,h3,h4⟩:=h
 cases p with
 | flow v n c m q =>
  rcases h4 with ⟨hv,hn,hc⟩ | ⟨b,hv,hb⟩
  ·simp only [Pg.slice,Pg.n,Pg.c] at hv hn hc; subst hv hn hc
   refine (writeF_nil m q w).mono fun e w' ⟨he,hw⟩=>⟨he,cs,⟨h1,h2,h3,.inl ⟨rfl,rfl,rfl⟩⟩,?_,Keep.of_below hw⟩
   intro j hj; simp [Pg.n] at hj
  ·simp only [Pg.slice,Pg.n,Pg.c,Pg.size] at hv h1 h2 h3; subst hv
   refine (writeF_any m q hb h1 h3 h2).mono fun e w' ⟨he,hb',hk⟩=>⟨he,_,⟨h1,h2,by rw [fill_size]; exact h3,.inr ⟨b,rfl,hb'⟩⟩,?_,hk.mono fun k _ hk=>own_is rfl k hk⟩
   intro j hj
   simp only [Pg.n,Pg.size] at hj
   exact fill_front 3 (by decide) _ cs n j (by omega) hj
theorem behind_pg {w:World} {p:Pg} {cs:Array Value} (h:p.Mem w cs) (hf:p.Front cs):Calls Tryz.prog p.behindF #[p.agg] w (WroteBehind w p):=by
 obtain ⟨h1,h2,h3,h4⟩:=h
 cases p with
 | flow v n c m q =>
  rcases h4 with ⟨hv,hn,hc⟩ | ⟨b,hv,hb⟩
  ·simp only [Pg.slice,Pg.n,Pg.c] at hv hn hc; subst hv hn hc
   refine (behindF_nil m q w).mono fun e w' ⟨he,hw⟩=>⟨he,cs,⟨h1,h2,h3,.inl ⟨rfl,rfl,rfl⟩⟩,hf,?_,Keep.of_below hw⟩
   intro j _ hj; simp [Pg.c] at hj
  ·simp only [Pg.slice,Pg.n,Pg.c,Pg.size] at hv h1 h2 h3; subst hv
   refine (behindF_any m q hb h1 h3 h2).mono fun e w' ⟨he,hb',hk⟩=>⟨he,_,⟨h1,h2,by rw [fill_size]; exact h3,.inr ⟨b,rfl,hb'⟩⟩,?_,?_,hk.mono fun k _ hk=>own_is rfl k hk⟩
   ·intro j hj
    rw [fill_keep 3 _ cs n _ j hj]
    exact hf j hj
   ·intro j hj hj2
    exact fill_back 3 _ cs n _ j h3 hj hj2
theorem stands_pg {w:World} {p:Pg} {cs:Array Value} (h:p.Mem w cs) (hf:p.Front cs) (hk:p.Back cs):Calls Tryz.prog p.standsF #[p.agg] w fun e w'=>e=.returned (.bool true)∧Below w.heap.size w w':=by
 obtain ⟨h1,h2,h3,h4⟩:=h
 cases p with
 | flow v n c m q =>
  rcases h4 with ⟨hv,hn,hc⟩ | ⟨b,hv,hb⟩
  ·simp only [Pg.slice,Pg.n,Pg.c] at hv hn hc; subst hv hn hc
   exact standsF_nil m q w
  ·simp only [Pg.slice,Pg.n,Pg.c,Pg.size] at hv h1 h2 h3; subst hv
   refine standsF_any m q hb h1 h3 h2 (fun j hj i hi=>?_) (fun j hj hj2 i hi=>?_)
   ·have:=hf (j * 3 + i) (by simp only [Pg.n,Pg.size]; omega)
    simp only [Pg.mark,Pg.size] at this
    rwa [show (j * 3 + i) % 3=i by omega] at this
   ·have:=hk (j * 3 + i) (by simp only [Pg.n,Pg.size]; omega) (by simp only [Pg.c,Pg.size]; omega)
    simp only [Pg.behind,Pg.size] at this
    rwa [show (j * 3 + i) % 3=i by omega] at this
def Pg.iface (p:Pg):Value:=.iface p.kind p.agg
structure BookIs (w:World) (base g:Nat) (vp:Value) (ps:List Pg):Prop where
 blk:Blk w g #[vp] 42
 ge:base≤g
 row:w.ownsRow base 89 1 vp ps.length (ps.map Pg.iface)
theorem number_any {w:World} {base g:Nat} {vp:Value} {ps:List Pg} (h:BookIs w base g vp ps) (hl:ps.length≤1000) :
  Calls Tryz.prog 41 #[.pointer (some ⟨g,0,none⟩)] w fun e w'=>e=.returned (.int .i64 (ps.length + 1))∧w'=w:=by
 have d0:=h.blk.cell 0
 simp at d0
 obtain ⟨ao,cap,rfl,_⟩:=owns_open h.row
 have hlt:=h.blk.lt
 clear h
 go_enter Tryz.func41,Tryz.ntmps41
 go_wp2
 go_ret
 exact ⟨rfl,rfl⟩
theorem info_page:(Tryz.prog.info? 89).map (fun i=>(i.zero,i.size,i.bytes))=some (some .nilIface,1,16):=by kernel_rfl
def Paged (base g:Nat) (vp:Value) (ps:List Pg) (p:Pg) (w:World) (e:Ending) (w':World):Prop :=
 e=.returned (.tuple #[])∧∃ vp',BookIs w' base g vp' (ps++[p])∧Keep (fun k=>k=g∨vp.ownBlock=some k) w w'
theorem paged_done {w w1:World} {base g:Nat} {vp v:Value} {ps:List Pg} {p:Pg} (h:BookIs w base g vp ps) (hg:g<w.heap.size)
  (ho:w1.ownsRow base 89 1 v (ps++[p]).length ((ps++[p]).map Pg.iface)) (hgr:(w.alloc (.cells #[p.iface] 89)).grownBy w1 vp.ownBlock) :
  ∃ vp',BookIs (w1.setCell ⟨g,0,none⟩ v) base g vp' (ps++[p])∧Keep (fun k=>k=g∨vp.ownBlock=some k) w (w1.setCell ⟨g,0,none⟩ v):=by
 have hne:=owns_ne h.row h.blk (by decide)
 have hb1:Blk w1 g #[vp] 42:=(h.blk.alloc _).grown hgr (fun e=>hne g e rfl)
 refine ⟨v,⟨?_,h.ge,?_⟩,?_⟩
 ·have:=hb1.set 0 v
  simpa using this
 ·exact owns_keep ho (Keep.setCell (S:=(·=g)) (Keep.refl _ _) (p:=⟨g,0,none⟩) (.inl rfl) v) (owns_ne ho hb1 (by decide))
 ·refine Keep.setCell (p:=⟨g,0,none⟩) ?_ (.inl (.inl rfl)) v
  exact Keep.grown (Keep.alloc (Keep.refl _ w) _) hgr (fun k hk=>.inl (.inr hk))
set_option maxHeartbeats 4000000 in
theorem flows_any {w:World} {base g:Nat} {vp:Value} {ps:List Pg} (h:BookIs w base g vp ps) (hl:ps.length≤100) (ao:Option Addr) (n c:Nat) :
  Calls Tryz.prog 12 #[.pointer (some ⟨g,0,none⟩),.slice ao n c] w (Paged base g vp ps (Pg.flow (.slice ao n c) n c ⟨0,0,(ps.length:Int) + 1⟩ ⟨0,0,-((ps.length:Int) + 1)⟩) w):=by
 have d0:=h.blk.cell 0
 simp at d0
 have H:=Lib.hid h
 have cn:=Lib.hid (number_any h (by omega))
 obtain ⟨ap,cap,hvp,_⟩:=owns_open h.row
 subst hvp
 have hlt:=h.blk.lt
 have hne:=Lib.hid (owns_ne h.row h.blk (by decide))
 clear h
 obtain ⟨i0,hi,hz0,hz1,hz2⟩:=info_parts info_page
 go_enter Tryz.func12,Tryz.ntmps12
 go_wp2_with fail
 refine cn.out.mono ?_
 rintro e w ⟨rfl,rfl⟩
 go_wp2_with (at_builtin; refine wpList_append_own _ rfl (.tmp 11) (.tmp 20) 40 rfl base 89 i0 .nilIface 1 16 Tryz.underlying40 hi hz0 hz1 hz2 rfl (by decide) _ _ _ rfl (H.out.row.alloc _) ⟨w.heap.size,0,none⟩ 1 1 [(Pg.flow (.slice ao n c) n c ⟨0,0,(ps.length:Int) + 1⟩ ⟨0,0,-((ps.length:Int) + 1)⟩).iface] rfl rfl ?_ ?_ (by unfold maxLen; omega) (by omega) (by have:=H.out.ge; simp; omega) ?_)
 ·intro j u hj
  rw [Go.WideShapes.add_plain]
  match j,hj with
  | 0,hj =>
   simp at hj; subst hj
   rw [Nat.zero_add]
   exact (Blk.new w #[(Pg.flow (.slice ao n c) n c ⟨0,0,(ps.length:Int) + 1⟩ ⟨0,0,-((ps.length:Int) + 1)⟩).iface] 89).cell 0
  | j + 1,hj=>simp at hj
 ·intro u hu
  simp at hu
  subst hu; rfl
 ·intro v' w1 hown hgr _
  have HO:Hid (w1.ownsRow base 89 1 v' (ps++[Pg.flow (.slice ao n c) n c ⟨0,0,(ps.length:Int) + 1⟩ ⟨0,0,-((ps.length:Int) + 1)⟩]).length ((ps++[Pg.flow (.slice ao n c) n c ⟨0,0,(ps.length:Int) + 1⟩ ⟨0,0,-((ps.length:Int) + 1)⟩]).map Pg.iface)):=Lib.hid (by simpa using hown)
  have HGR:Hid ((w.alloc (.cells #[(Pg.flow (.slice ao n c) n c ⟨0,0,(ps.length:Int) + 1⟩ ⟨0,0,-((ps.length:Int) + 1)⟩).iface] 89)).grownBy w1 (Value.slice ap ps.length cap).ownBlock):=hgr
  have hb1:=(H.out.blk.alloc (.cells #[(Pg.flow (.slice ao n c) n c ⟨0,0,(ps.length:Int) + 1⟩ ⟨0,0,-((ps.length:Int) + 1)⟩).iface] 89)).grown hgr (fun e=>hne.out g e rfl)
  have d1:=hb1.cell 0
  simp at d1
  have hf1:=hb1.frozen
  have hlt1:=hb1.lt
  clear hown hgr hb1 d0
  obtain ⟨a3,c3,hv3,_⟩:=owns_open HO.out
  subst hv3
  go_wp2_with fail
  go_end0
  have fin:=paged_done H.out hlt HO.out HGR.out
  simp only [List.length_append,List.length_singleton] at fin
  exact ⟨rfl,fin⟩
def Apartly (ps:List Pg):Prop:=∀ (i j:Nat) (p q:Pg) (b:Nat),ps[i]? = some p→ps[j]? = some q→p.own b→q.own b→i=j
def Pg.any (ps:List Pg) (b:Nat):Prop:=∃ p ∈ ps,p.own b
structure Pages (w:World) (base g:Nat) (vp:Value) (ps:List Pg) (f b:Nat) (wr:World):Prop where
 book:BookIs wr base g vp ps
 keep:Keep (Pg.any ps) w wr
 page:∀ j p,ps[j]? = some p→∃ cs,p.Mem wr cs∧(j<f→p.Front cs)∧(j<b→p.Back cs)
theorem Pg.elem_ne (p:Pg):p.elem≠89∧p.elem≠42:=by
 cases p
 ·exact ⟨show 62≠89 by decide,show 62≠42 by decide⟩
theorem BookIs.keep {w1 w2:World} {base g:Nat} {vp:Value} {ps:List Pg} {p:Pg} {cs:Array Value} (h:BookIs w1 base g vp ps) (hm:p.Mem w1 cs) (hk:Keep p.own w1 w2):BookIs w2 base g vp ps:=by
 refine ⟨h.blk.keep hk fun hg=>?_,h.ge,owns_keep h.row hk fun b hv hb=>?_⟩
 ·obtain ⟨_,cur,hc⟩:=hm.own hg
  have:=h.blk.out
  rw [hc] at this
  simp at this
  exact p.elem_ne.2 this.2
 ·obtain ⟨_,cur,hc⟩:=hm.own hb
  obtain ⟨_,_,cur',hc'⟩:=owns_type h.row hv
  rw [hc] at hc'
  simp at hc'
  exact p.elem_ne.1 hc'.2
theorem Pages.step {w w1 w2:World} {base g:Nat} {vp:Value} {ps:List Pg} {f b f' b' k:Nat} {p:Pg} (h:Pages w base g vp ps f b w1) (ha:Apartly ps) (hp:ps[k]? = some p) (hk:Keep p.own w1 w2)
  (hm:∃ cs',p.Mem w2 cs'∧(k<f'→p.Front cs')∧(k<b'→p.Back cs')) (hf:∀ j,j≠k→j<f'→j<f) (hb:∀ j,j≠k→j<b'→j<b):Pages w base g vp ps f' b' w2:=by
 obtain ⟨cs,m0,_,_⟩:=h.page k p hp
 refine ⟨h.book.keep m0 hk,h.keep.trans (hk.mono fun x _ hx=>⟨p,List.mem_of_getElem? hp,hx⟩),fun j q hq=>?_⟩
 ·by_cases hj:j=k
  ·subst hj
   rw [hp] at hq; cases hq
   exact hm
  ·obtain ⟨cs,m,f1,b1⟩:=h.page j q hq
   exact ⟨cs,m.keep hk (fun x hx hpx=>hj (ha j k q p x hq hp hx hpx)),fun h1=>f1 (hf j hj h1),fun h1=>b1 (hb j hj h1)⟩
theorem Pages.wrote {w w1 w2:World} {base g:Nat} {vp:Value} {ps:List Pg} {k:Nat} {p:Pg} {e:Ending} (h:Pages w base g vp ps k 0 w1) (ha:Apartly ps) (hp:ps[k]? = some p) (hw:Wrote w1 p e w2):Pages w base g vp ps (k + 1) 0 w2:=by
 obtain ⟨_,cs',m,f,kp⟩:=hw
 exact h.step ha hp kp ⟨cs',m,fun _=>f,fun h=>absurd h (by omega)⟩ (fun j h1 h2=>by omega) (fun j h1 h2=>by omega)
theorem Pages.wroteBehind {w w1 w2:World} {base g:Nat} {vp:Value} {ps:List Pg} {k:Nat} {p:Pg} {e:Ending} (h:Pages w base g vp ps ps.length k w1) (ha:Apartly ps) (hp:ps[k]? = some p) (hw:WroteBehind w1 p e w2):Pages w base g vp ps ps.length (k + 1) w2:=by
 obtain ⟨_,cs',m,f,b,kp⟩:=hw
 exact h.step ha hp kp ⟨cs',m,fun _=>f,fun _=>b⟩ (fun j h1 h2=>h2) (fun j h1 h2=>by omega)
theorem Pages.below {w w1 w2:World} {base g:Nat} {vp:Value} {ps:List Pg} {f b:Nat} (h:Pages w base g vp ps f b w1) (hk:Below w1.heap.size w1 w2):Pages w base g vp ps f b w2:=by
 have kk:Keep (fun _=>False) w1 w2:=Keep.of_below hk
 refine ⟨⟨h.book.blk.keep kk id,h.book.ge,owns_below h.book.row hk⟩,h.keep.trans (Keep.of_below hk),fun j p hp=>?_⟩
 obtain ⟨cs,m,f1,b1⟩:=h.page j p hp
 exact ⟨cs,m.keep kk (fun _ _=>id),f1,b1⟩
theorem Pages.read {w wr:World} {base g f b cap:Nat} {ao:Option Addr} {ps:List Pg} (h:Pages w base g (.slice ao ps.length cap) ps f b wr) {k:Nat} (hk:k<ps.length) :
  ∃ z p,ps[k]? = some p∧ao=some ⟨z,0,none⟩∧wr.cell? ⟨z,k,none⟩=some (.iface p.kind p.agg)∧wr.frozen? ⟨z,k,none⟩=false∧z<wr.heap.size:=by
 obtain ⟨ao',cap',hv,_,_,_,hr⟩:=owns_open h.book.row
 cases hv
 obtain ⟨z,hz,_,hlt,hc,hfr⟩:=hr (by omega)
 refine ⟨z,ps[k],List.getElem?_eq_getElem hk,hz,?_,hfr k,hlt⟩
 rw [hc k (by omega),List.getElem?_map,List.getElem?_eq_getElem hk]
 rfl
theorem method_write (p : Pg) (n : Nat) (w : World) : (method (n + 1) p.kind p.agg "countinghouse/countinghouselaw01.write").run Tryz.prog w = .ok (p.writeF, p.agg) w := by
 cases p <;> kernel_rfl
theorem method_behind (p : Pg) (n : Nat) (w : World) : (method (n + 1) p.kind p.agg "countinghouse/countinghouselaw01.writeBehind").run Tryz.prog w = .ok (p.behindF, p.agg) w := by
 cases p <;> kernel_rfl
theorem method_stands (p : Pg) (n : Nat) (w : World) : (method (n + 1) p.kind p.agg "countinghouse/countinghouselaw01.stands").run Tryz.prog w = .ok (p.standsF, p.agg) w := by
 cases p <;> kernel_rfl
theorem enter_write (p:Pg) (w:World):(callFunc p.writeF #[p.agg]).run Tryz.prog w=.ok (.enter p.writeF #[p.agg]) w:=by
 cases p <;> kernel_rfl
theorem enter_behind (p:Pg) (w:World):(callFunc p.behindF #[p.agg]).run Tryz.prog w=.ok (.enter p.behindF #[p.agg]) w:=by
 cases p <;> kernel_rfl
theorem enter_stands (p:Pg) (w:World):(callFunc p.standsF #[p.agg]).run Tryz.prog w=.ok (.enter p.standsF #[p.agg]) w:=by
 cases p <;> kernel_rfl
def PagesAt (w:World) (base g:Nat) (vp:Value) (ps:List Pg) (f b:Nat→Nat) (i:Value) (wr:World):Prop :=
 ∃ k:Nat,k≤ps.length∧i=.int .i64 k∧Pages w base g vp ps (f k) (b k) wr
set_option maxHeartbeats 4000000 in
theorem apart_any {w:World} {base g:Nat} {vp:Value} {ps:List Pg} (h:BookIs w base g vp ps) (hl:ps.length≤120) (hm:∀ p ∈ ps,∃ cs,p.Mem w cs) (ha:Apartly ps) :
  Calls Tryz.prog 16 #[.pointer (some ⟨g,0,none⟩)] w fun e w'=>e=.returned (.bool true)∧Keep (Pg.any ps) w w':=by
 obtain ⟨ao,cap,rfl,hcap,hmax,_,_⟩:=owns_open h.row
 have d0:=h.blk.cell 0
 simp at d0
 have hg:=h.blk.lt
 have P0:Hid (Pages w base g (.slice ao ps.length cap) ps 0 0 w):=Lib.hid ⟨h,Keep.refl _ w,fun j p hp=>by
  obtain ⟨cs,m⟩:=hm p (List.mem_of_getElem? hp)
  exact ⟨cs,m,fun h=>absurd h (by omega),fun h=>absurd h (by omega)⟩⟩
 have HA:=Lib.hid ha
 have MW:=method_write
 have MB:=method_behind
 have MS:=method_stands
 have EW:=enter_write
 have EB:=enter_behind
 have ES:=enter_stands
 clear h hm ha
 unfold maxLen at hmax
 go_enter Tryz.func16,Tryz.ntmps16
 go_wp2
 go_loopw [3] (PagesAt w base g (.slice ao ps.length cap) ps (fun k=>k) (fun _=>0)) (fun i _=>ps.length - (intOf i).toNat)
 case atStart=>exact ⟨0,Nat.zero_le _,rfl,P0.out⟩
 case round =>
  obtain ⟨k,hk,rfl,hP⟩:=hrel
  have HP:=Lib.hid hP
  have d0:=hP.book.blk.cell 0
  simp at d0
  by_cases hkl:k<ps.length
  ·obtain ⟨z,p,hp,rfl,hcell,hf,hz⟩:=hP.read hkl
   obtain ⟨cs,m,_,_⟩:=hP.page k p hp
   have cw:=Lib.hid (write_pg m)
   clear hP m
   go_wp2_with fail
   refine cw.out.mono ?_
   intro e w2 hw
   have N2:=Lib.hid (HP.out.wrote HA.out hp hw)
   obtain ⟨rfl,_⟩:=hw
   go_wp2
   go_roundw
   case rel=>exact ⟨k + 1,by omega,by go_num,N2.out⟩
   case measure=>simp [intOf]; omega
  ·obtain rfl:k=ps.length:=by omega
   clear hP
   go_wp2
   go_loopw [4] (PagesAt w base g (.slice ao ps.length cap) ps (fun _=>ps.length) (fun k=>k)) (fun i _=>ps.length - (intOf i).toNat)
   case atStart=>exact ⟨0,Nat.zero_le _,rfl,HP.out⟩
   case round =>
    obtain ⟨k,hk,rfl,hP⟩:=hrel
    have HP:=Lib.hid hP
    have d0:=hP.book.blk.cell 0
    simp at d0
    by_cases hkl:k<ps.length
    ·obtain ⟨z,p,hp,rfl,hcell,hf,hz⟩:=hP.read hkl
     obtain ⟨cs,m,f1,_⟩:=hP.page k p hp
     have cw:=Lib.hid (behind_pg m (f1 hkl))
     clear hP m
     go_wp2_with fail
     refine cw.out.mono ?_
     intro e w2 hw
     have N2:=Lib.hid (HP.out.wroteBehind HA.out hp hw)
     obtain ⟨rfl,_⟩:=hw
     go_wp2
     go_roundw
     case rel=>exact ⟨k + 1,by omega,by go_num,N2.out⟩
     case measure=>simp [intOf]; omega
    ·obtain rfl:k=ps.length:=by omega
     clear hP
     go_wp2
     go_loopw [5] (PagesAt w base g (.slice ao ps.length cap) ps (fun _=>ps.length) (fun _=>ps.length)) (fun i _=>ps.length - (intOf i).toNat)
     case atStart=>exact ⟨0,Nat.zero_le _,rfl,HP.out⟩
     case round =>
      obtain ⟨k,hk,rfl,hP⟩:=hrel
      have HP:=Lib.hid hP
      have d0:=hP.book.blk.cell 0
      simp at d0
      by_cases hkl:k<ps.length
      ·obtain ⟨z,p,hp,rfl,hcell,hf,hz⟩:=hP.read hkl
       obtain ⟨cs,m,f1,b1⟩:=hP.page k p hp
       have cw:=Lib.hid (stands_pg m (f1 hkl) (b1 hkl))
       clear hP m
       go_wp2_with fail
       refine cw.out.mono ?_
       rintro e w2 ⟨rfl,hb⟩
       have N2:=Lib.hid (HP.out.below hb)
       clear hb
       go_wp2
       go_roundw
       case rel=>exact ⟨k + 1,by omega,by go_num,N2.out⟩
       case measure=>simp [intOf]; omega
      ·obtain rfl:k=ps.length:=by omega
       clear hP
       go_wp2
       go_ret
       exact ⟨rfl,HP.out.keep⟩
theorem rowed_flow {w:World} {base n:Nat} {v:Value} {xs:List Value} (h:Rowed w base 62 3 v n xs):∃ (ao:Option Addr) (c:Nat),v=.slice ao n c∧∀ m q,(∃ cs,(Pg.flow (.slice ao n c) n c m q).Mem w cs)∧∀ b,(Pg.flow (.slice ao n c) n c m q).own b→base≤b∧b<w.heap.size:=by
 obtain ⟨_,⟨rfl,rfl⟩ | ⟨g,cur,rfl,hb,hg,hm,hc,_⟩⟩:=h
 ·exact ⟨none,0,rfl,fun m q=>⟨⟨#[],by simp [Pg.n,Pg.c],by simp [Pg.c],by simp [Pg.c],.inl ⟨rfl,rfl,rfl⟩⟩,fun b h=>by cases h⟩⟩
 ·exact ⟨_,n,rfl,fun m q=>⟨⟨cur,Nat.le_refl _,hm,hc,.inr ⟨g,rfl,hg⟩⟩,fun b h=>by cases h; exact ⟨hb,lt_of_block hg⟩⟩⟩
structure TailO (R:World→Prop) (base g:Nat) (bv:Value) (pgs:List Pg) (w:World):Prop where
 book:BookIs w base g bv pgs
 mem:∀ p ∈ pgs,∃ cs,p.Mem w cs
 apart:Apartly pgs
 low:∀ p ∈ pgs,∀ b,p.own b→base≤b
 rest:R w
def FarR (base:Nat) (R:World→Prop):Prop:=∀ (w w':World) (S:Nat→Prop),R w→Keep S w w'→(∀ b,S b→base≤b)→R w'
theorem FarR.below {base:Nat} {R:World→Prop} (f:FarR base R) {w w':World} (h:R w) (k:Below w.heap.size w w'):R w':=f w w' (fun _=>False) h (Keep.of_below k) (fun _ h=>h.elim)
theorem TailO.below {R:World→Prop} {base g:Nat} {bv:Value} {pgs:List Pg} {w w':World} (f:FarR base R) (h:TailO R base g bv pgs w) (k:Below w.heap.size w w'):TailO R base g bv pgs w':=by
 have kk:Keep (fun _=>False) w w':=Keep.of_below k
 refine ⟨⟨h.book.blk.below k h.book.blk.lt,h.book.ge,owns_below h.book.row k⟩,fun p hp=>?_,h.apart,h.low,f.below h.rest k⟩
 obtain ⟨cs,m⟩:=h.mem p hp
 exact ⟨cs,m.keep kk (fun _ _=>id)⟩
theorem Pg.Mem.off {p:Pg} {w w2:World} {base g:Nat} {bv:Value} {pgs:List Pg} {cs:Array Value} (m:p.Mem w cs) (hb:BookIs w base g bv pgs) (hk:Keep (fun k=>k=g∨bv.ownBlock=some k) w w2):p.Mem w2 cs:=by
 refine m.keep hk ?_
 rintro b ho (e | e)
 ·obtain ⟨_,cur,hc⟩:=m.own ho
  rw [e] at hc
  have:=hb.blk.out
  rw [hc] at this
  simp only [Option.some.injEq,Obj.cells.injEq] at this
  exact (Pg.elem_ne p).2 this.2.1
 ·obtain ⟨_,cur,hc⟩:=m.own ho
  obtain ⟨_,_,cur2,hc2⟩:=owns_type hb.row e
  rw [hc2] at hc
  simp only [Option.some.injEq,Obj.cells.injEq] at hc
  exact (Pg.elem_ne p).1 hc.2.1.symm
theorem TailO.add {R:World→Prop} {base g:Nat} {bv:Value} {pgs:List Pg} {p:Pg} {w1 w2:World} {e:Ending} (f:FarR base R) (h:TailO R base g bv pgs w1) (hm:∃ cs,p.Mem w1 cs) (hb:∀ b,p.own b→base≤b∧∀ q ∈ pgs,¬ q.own b) (hp:Paged base g bv pgs p w1 e w2) :
  ∃ bv',TailO R base g bv' (pgs++[p]) w2:=by
 obtain ⟨_,bv',hbk,hk⟩:=hp
 refine ⟨bv',hbk,?_,?_,?_,f _ _ _ h.rest hk ?_⟩
 ·intro q hq
  rcases List.mem_append.1 hq with hq | hq
  ·obtain ⟨cs,m⟩:=h.mem q hq
   exact ⟨cs,m.off h.book hk⟩
  ·rw [List.mem_singleton] at hq; subst hq
   obtain ⟨cs,m⟩:=hm
   exact ⟨cs,m.off h.book hk⟩
 ·intro i j q q' b hi hj ho ho'
  have key:∀ (i:Nat) (q:Pg),(pgs++[p])[i]? = some q→(i<pgs.length∧pgs[i]? = some q)∨(i=pgs.length∧q=p):=by
   intro i q hi
   by_cases hl:i<pgs.length
   ·rw [List.getElem?_append_left hl] at hi; exact .inl ⟨hl,hi⟩
   ·rw [List.getElem?_append_right (by omega)] at hi
    have h0:i - pgs.length=0:=by
     have:=(List.getElem?_eq_some_iff.1 hi).1
     simpa using this
    rw [h0] at hi
    simp at hi
    exact .inr ⟨by omega,hi.symm⟩
  rcases key i q hi with ⟨_,hi'⟩ | ⟨hi',rfl⟩
  ·rcases key j q' hj with ⟨_,hj'⟩ | ⟨hj',rfl⟩
   ·exact h.apart i j q q' b hi' hj' ho ho'
   ·exact absurd ho ((hb b ho').2 q (List.mem_of_getElem? hi'))
  ·rcases key j q' hj with ⟨_,hj'⟩ | ⟨hj',rfl⟩
   ·exact absurd ho' ((hb b ho).2 q' (List.mem_of_getElem? hj'))
   ·omega
 ·intro q hq b hb'
  rcases List.mem_append.1 hq with hq | hq
  ·exact h.low q hq b hb'
  ·rw [List.mem_singleton] at hq; subst hq; exact (hb b hb').1
 ·rintro b (e | e)
  ·rw [e]; exact h.book.ge
  ·exact (owns_type h.book.row e).1
theorem TailO.fresh {R:World→Prop} {base g:Nat} {bv:Value} {pgs:List Pg} {w:World} (h:TailO R base g bv pgs w) {b:Nat} (hb:w.heap.size≤b):base≤b∧∀ q ∈ pgs,¬ q.own b:=by
 refine ⟨by have:=h.book.ge; have:=h.book.blk.lt; omega,fun q hq ho=>?_⟩
 obtain ⟨cs,m⟩:=h.mem q hq
 have:=(m.own ho).1
 omega
theorem TailO.start {R:World→Prop} {base:Nat} {w:World} (f:FarR base R) (h:R w) (hb:base≤w.heap.size):TailO R base w.heap.size (.slice none 0 0) [] (w.alloc (.cells #[.slice none 0 0] 42)):=by
 have bw:=(Below.refl w.heap.size w).alloc (Nat.le_refl _) (.cells #[.slice none 0 0] 42)
 exact ⟨⟨Blk.new _ _ _,hb,World.ownsRow_nil _ _ _ _⟩,by simp,fun i j p q b h=>by simp at h,by simp,f.below h bw⟩
end Go.Proofs.YtlbjjkbppbmihaaGreat
namespace Go.Proofs.YtlbjjkbppbmihaaGreat
open Go.RowKit Go.ChangeShapes Go.WideShapes Go.Deep
structure Nk where
 cu:Int
 q:Int
def Nk.vals (x:Nk):List Value:=[.int .u8 x.cu,.int .i64 x.q]
theorem Nk.vals_len (x:Nk):x.vals.length=2:=rfl
structure Nk.Fits (x:Nk):Prop where
 cu:In8 x.cu
 q:In64 x.q
section
variable {H:Type} {enc:TypeId × Value→H} {P:Program} {w:World} {base:Nat} {spare:Nat→Bool} {held:Bool}
theorem ask13_of {t:TypeId} {f0 f1:Field} (hu:P.underlying t=some (.struct #[f0,f1])) (hC:P.cellsOf t=2)
  (o:f0.offset=0∧f1.offset=1) (c:P.cellsOf f0.type=1∧P.cellsOf f1.type=1)
  (k:P.underlying f0.type=some (.int .u8)∧P.underlying f1.type=some (.int .i64))
  {fuel:Nat} {cs:List Value} {x:DataW H × List MemPlace} (h:DataW.trod enc P w base spare held fuel t cs=some x):∃ x:Nk,x.Fits∧cs=x.vals:=by
 obtain ⟨xs,n,_,_,hlen,hxl,hf⟩:=DataW.trod_struct hu h
 rw [hC] at hlen
 obtain ⟨m0,e0,w0⟩:=num_of hxl hf (j:=0) rfl o.1 c.1 k.1 (by omega)
 obtain ⟨m1,e1,w1⟩:=num_of hxl hf (j:=1) rfl o.2 c.2 k.2 (by omega)
 match cs,hlen with
 | [a0,a1],_ =>
  simp at e0 e1
  subst e0 e1
  exact ⟨⟨m0,m1⟩,⟨In8.of_wf w0,In64.of_wf w1⟩,rfl⟩
end
theorem LInv.len13 {ps:List Int} {ls:List Ln} (h:LInv ps ls):ps.length≤17:=by
 have h1:=open_all h.bd h.rise
 have h2:=openTo_len ps 0 17
 rw [h1] at h2
 omega
theorem RefL.ne13 {w:World} {base g:Nat} {ps:List Int} {ls:List Ln} {vp vl:Value} (h:RefL w base g ps ls vp vl) {b:Nat} (hb:b<base):¬ g=b∧(∀ k,vp.ownBlock=some k→¬ k=b)∧∀ k,vl.ownBlock=some k→¬ k=b :=
 ⟨by have:=h.ge; omega,fun k hk=>by have:=(owns_type h.p hk).1; omega,fun k hk=>by have:=(owns_type h.l hk).1; omega⟩
theorem NetAns.inv {ps:List Int} {ls ms:List Ln} {c q g m e:Int} (h:NetAns ls c q g m e ms) (hI:LInv ps ls):LInv ps ms:=by
 rcases h with ⟨_,_,_,_,rfl⟩ | ⟨_,_,L,k,_,⟨_,_,_,_,rfl⟩ | ⟨_,_,_,_,rfl⟩⟩
 ·exact hI
 ·exact netL_inv hI c L
 ·exact hI
theorem TailO.aside {R R':World→Prop} {S:Nat→Prop} {base g:Nat} {bv:Value} {pgs:List Pg} {w w':World} (h:TailO R base g bv pgs w) (k:Keep S w w') (hS:∀ b,S b→b<base) (hR:R' w'):TailO R' base g bv pgs w':=by
 refine ⟨⟨h.book.blk.keep k (fun e=>?_),h.book.ge,owns_keep h.book.row k (fun b hb e=>?_)⟩,fun p hp=>?_,h.apart,h.low,hR⟩
 ·have:=hS _ e
  have:=h.book.ge
  omega
 ·have:=hS _ e
  have:=(owns_type h.book.row hb).1
  omega
 ·obtain ⟨cs,m⟩:=h.mem p hp
  exact ⟨cs,m.keep k (fun b hb e=>by have:=hS _ e; have:=h.low p hp b hb; omega)⟩
theorem flow_own {w:World} {base base' g:Nat} {bv:Value} {pgs:List Pg} {R:World→Prop} (h:TailO R base' g bv pgs w) (hp:∀ p ∈ pgs,p.elem=62) {e:TypeId} (he:e≠62) {size n:Nat} {v:Value} {xs:List Value} (ho:w.ownsRow base e size v n xs) {b:Nat} (hb:v.ownBlock=some b):¬ Pg.any pgs b:=fun ⟨p,hm,hc⟩=>by
 obtain ⟨cs,m⟩:=h.mem p hm
 obtain ⟨_,cur,hq⟩:=m.own hc
 obtain ⟨_,_,cur2,hq2⟩:=owns_type ho hb
 rw [hq2] at hq
 simp only [Option.some.injEq,Obj.cells.injEq] at hq
 rw [hp p hm] at hq
 exact he hq.2.1
section
variable {H:Type} {enc:TypeId × Value→H} {w:World} {base:Nat} {spare:Nat→Bool} {held:Bool}
theorem ask13_read {fuel:Nat} {cs:List Value} {x:DataW H × List MemPlace} (h:DataW.trod enc Tryz.prog w base spare held fuel 35 cs=some x):∃ x:Nk,x.Fits∧cs=x.vals :=
 ask13_of Tryz.underlying35 (by kernel_rfl) ⟨rfl,rfl⟩ ⟨by kernel_rfl,by kernel_rfl⟩ ⟨Tryz.underlying31,Tryz.underlying2⟩ h
set_option maxRecDepth 100000 in
theorem asks13_open {a:Option Addr} {len cap:Nat} {d:DataW H} {p:List MemPlace} (h:DataW.Trod enc Tryz.prog w base spare held 23 (.slice a len cap) d p):∃ xs:List Nk,SlIn Nk.vals 2 Nk.Fits w a len cap xs :=
 sl_open Tryz.underlying23 (by kernel_rfl) Nk.vals_len (by decide) (fun fuel cs x h=>ask13_read h) h
end
structure Rest13 (w0:World) (G M r X:Nat) (ps:List Int) (ls:List Ln) (vp vl:Value) (cu q:Int) (w:World):Prop where
 led:LedM w G M ps ls
 ref:RefL w r r ps ls vp vl
 ask:Blk w X #[.int .u8 cu,.int .i64 q] 35
 from_:Below w0.heap.size w0 w
theorem Rest13.far {w0:World} {G M r X base:Nat} {ps:List Int} {ls:List Ln} {vp vl:Value} {cu q:Int} (hG:G<base) (hM:M<base) (hr:r<base) (hX:X<base) (hp:∀ b,vp.ownBlock=some b→b<base) (hl:∀ b,vl.ownBlock=some b→b<base) (h0:w0.heap.size≤base):FarR base (Rest13 w0 G M r X ps ls vp vl cu q):=fun w1 w2 S h k hS =>
 ⟨h.led.keep k (fun e=>by have:=hS _ e; omega) (fun e=>by have:=hS _ e; omega),h.ref.keep k (fun e=>by have:=hS _ e; omega) (fun b hb e=>by have:=hS _ e; have:=hp b hb; omega) (fun b hb e=>by have:=hS _ e; have:=hl b hb; omega),
  h.ask.keep k (fun e=>by have:=hS _ e; omega),h.from_.trans (k.below h.from_.size (fun b hb e=>by have:=hS _ e; omega))⟩
def Play13 (w:World) (G M r len:Nat) (i:Value) (wr:World):Prop :=
 ∃ (k:Nat) (ps:List Int) (ls:List Ln) (vp vl:Value),k≤len∧i=.int .i64 k∧LedM wr G M ps ls∧LInv ps ls∧RefL wr r r ps ls vp vl∧Below w.heap.size w wr
set_option maxHeartbeats 32000000 in
set_option maxRecDepth 100000 in
theorem nplay_walk (HD:DebtsProg) (HN:NetProg) (HL:Lives13) (HR:RLeastProg) (a:Option Addr) (len cap:Nat) (xs:List Ac) (a2:Option Addr) (len2 cap2:Nat) (zs:List Nk) (w:World) (h0:ActsIn w a len cap xs) (h2:SlIn Nk.vals 2 Nk.Fits w a2 len2 cap2 zs) :
  Calls Tryz.prog 3 #[.slice a len cap,.slice a2 len2 cap2] w fun e w'=>e=.returned (.bool true)∧Below w.heap.size w w':=by
 have HA:=Lib.hid h0
 have HZ:=Lib.hid h2
 have hxl:=h0.1
 have hcap:=h0.2.2.1
 have hmax:=h0.2.2.2.1
 have hcap2:=h2.2.2.2.1
 have hmax2:=h2.2.2.2.2.1
 have hzl:=h2.2.1
 unfold maxLen at hmax hmax2
 have HDo:=Lib.hid HD
 have HNo:=Lib.hid HN
 have HLo:=Lib.hid HL
 have HRo:=Lib.hid HR
 clear h0 h2 HD HN HL HR
 by_cases hle:¬ (len≤120∧len2≤5)
 ·rcases (by omega:120<len∨(len≤120∧5<len2)) with hq | ⟨hq1,hq2⟩
  ·have l1:decide ((120:Int)<(len:Int))=true:=by simp; omega
   go_enter Tryz.func3,Tryz.ntmps3
   go_wp2_with fail
   refine (HLo.out _).mono ?_
   rintro e w1 ⟨rfl,b1⟩
   have B1:=Lib.hid b1
   clear b1
   go_wp2_with fail
   go_ret
   exact ⟨rfl,B1.out⟩
  ·have l1:decide ((120:Int)<(len:Int))=false:=by simp; omega
   have l2:decide ((5:Int)<(len2:Int))=true:=by simp; omega
   go_enter Tryz.func3,Tryz.ntmps3
   go_wp2_with fail
   refine (HLo.out _).mono ?_
   rintro e w1 ⟨rfl,b1⟩
   have B1:=Lib.hid b1
   clear b1
   go_wp2_with fail
   go_ret
   exact ⟨rfl,B1.out⟩
 obtain ⟨hle,hle2⟩:=Decidable.not_not.1 hle
 have l1:decide ((120:Int)<(len:Int))=false:=by simp; omega
 have l2:decide ((5:Int)<(len2:Int))=false:=by simp; omega
 go_enter Tryz.func3,Tryz.ntmps3
 go_wp2_with fail
 refine (new_any w).mono ?_
 rintro e w1 ⟨G,M,rfl,hL1,hG,hM,b1⟩
 have hGl:=hL1.blk.lt
 have hMl:=hL1.map.lt
 have L1:=Lib.hid hL1
 have B1:=Lib.hid b1
 clear hL1 b1
 go_wp2_with fail
 refine (rnew_any w1 w1.heap.size (Nat.le_refl _)).mono ?_
 rintro e w2 ⟨rfl,hr2,b2⟩
 have L2:=Lib.hid (L1.out.below b2)
 have R2:=Lib.hid hr2
 have B2:=Lib.hid (B1.out.trans (b2.mono B1.out.size))
 have hwr:w.heap.size≤w1.heap.size:=B1.out.size
 clear hr2 b2 L1 B1
 go_wp2_with fail
 generalize hr:w1.heap.size=r at *
 clear hr
 go_loopw [7] (Play13 w G M r len) (fun i _=>len - (intOf i).toNat)
 case atStart=>exact ⟨0,[],[],.slice none 0 0,.slice none 0 0,Nat.zero_le _,rfl,L2.out,LInv.nil,R2.out,B2.out⟩
 case round =>
  clear L2 R2 B2
  obtain ⟨k,ps,ls,vp,vl,hk,rfl,hL,hI,hR,hB⟩:=hrel
  have L0:=Lib.hid hL
  have I0:=Lib.hid hI
  have R0:=Lib.hid hR
  have B0:=Lib.hid hB
  clear hL hI hR hB
  by_cases hkl:k<len
  ·obtain ⟨b,off,rfl,hb,d0,d1,d2,d3,d4⟩:=(HA.out.below B0.out).at (i:=k) (by omega)
   have hx:=HA.out.2.1 xs[k] (List.getElem_mem _)
   generalize hxe:xs[k]=x at *
   clear hxe
   have CD:=Lib.hid (does_any L0.out I0.out R0.out hx)
   have HK:=Lib.hid hkl
   clear hx
   go_wp2_with fail
   refine CD.out.mono ?_
   rintro e w4 ⟨rfl,k4,ps',ls',vp',vl',hL',hI',hR'⟩
   have L4:=Lib.hid hL'
   have I4:=Lib.hid hI'
   have R4:=Lib.hid hR'
   have B4:=Lib.hid (B0.out.trans (k4.below B0.out.size (fun q hq e=>by unfold Trio at e; omega)))
   clear hL' hI' hR' k4 CD d0 d1 d2 d3 d4
   go_wp2_with fail
   exact ⟨⟨k + 1,ps',ls',vp',vl',by have:=HK.out; omega,by go_num,L4.out,I4.out,R4.out,B4.out⟩,by simp [intOf]; have:=HK.out; omega⟩
  ·have hkn:k=len:=by omega
   subst hkn
   go_wp2_with fail
   go_loopw [8] (Play13 w G M r len2) (fun i _=>len2 - (intOf i).toNat)
   case atStart=>exact ⟨0,ps,ls,vp,vl,Nat.zero_le _,rfl,L0.out,I0.out,R0.out,B0.out⟩
   case round =>
    clear L0 I0 R0 B0
    obtain ⟨k,ps,ls,vp,vl,hk,rfl,hL,hI,hR,hB⟩:=hrel
    have L0:=Lib.hid hL
    have I0:=Lib.hid hI
    have R0:=Lib.hid hR
    have B0:=Lib.hid hB
    have hrl:=hR.blk.lt
    clear hL hI hR hB
    by_cases hkl:k<len2
    ·obtain ⟨b,off,rfl,hb,hcc⟩:=(HZ.out.below B0.out).2.2.2.2.2 (by omega)
     have hkz:k<zs.length:=by omega
     have d0:=hcc k hkz 0 _ rfl
     have d1:=hcc k hkz 1 _ rfl
     have hx:=HZ.out.2.2.1 zs[k] (List.getElem_mem _)
     generalize hxe:zs[k]=x at *
     clear hxe hcc
     obtain ⟨cu,q⟩:=x
     obtain ⟨x0,x1⟩:=hx
     dsimp only at x0 x1 d0 d1
     rw [Nat.add_zero] at d0
     have HX:=Lib.hid (And.intro x0 x1)
     have HK:=Lib.hid hkl
     have bx:=(Below.refl wr.heap.size wr).alloc (Nat.le_refl _) (.cells #[.int .u8 cu,.int .i64 q] 35)
     have KX:=Lib.hid (Blk.new wr #[.int .u8 cu,.int .i64 q] 35)
     have L1:=Lib.hid (L0.out.below bx)
     have R1:=Lib.hid (R0.out.below bx)
     have B1:=Lib.hid (B0.out.trans (bx.mono B0.out.size))
     have PV:=Lib.hid (fun b hb=>(owns_type R1.out.p (b:=b) hb).2.1)
     have LV:=Lib.hid (fun b hb=>(owns_type R1.out.l (b:=b) hb).2.1)
     have hWs:(wr.alloc (.cells #[.int .u8 cu,.int .i64 q] 35)).heap.size=wr.heap.size + 1:=by simp
     have DL:=Lib.hid (debts_len I0.out cu)
     clear bx L0 R0 B0
     have CD:=Lib.hid (HDo.out.at_ L1.out I0.out cu x0)
     clear x0 x1
     go_wp2_with fail
     generalize hX:wr.heap.size=X at *
     generalize wr.alloc (.cells #[.int .u8 cu,.int .i64 q] 35)=W at *
     clear d0 d1 hX
     refine CD.out.mono ?_
     rintro e w3 ⟨va,rfl,ra,b3⟩
     obtain ⟨aoa,rfl,_⟩:=rowed_shape ra
     have RA:=Lib.hid ra
     have L2:=Lib.hid (L1.out.below b3)
     have R2:=Lib.hid (R1.out.below b3)
     have B2:=Lib.hid (B1.out.trans (b3.mono B1.out.size))
     have KX2:=Lib.hid (KX.out.below b3 KX.out.lt)
     have hW3:=b3.size
     clear ra b3 CD L1 R1 B1 KX
     have C2:=Lib.hid (rdebts_any R2.out cu)
     have kx:=KX2.out.lt
     have e0:=KX2.out.cell 0; have e1:=KX2.out.cell 1
     simp at e0 e1
     go_wp2_with fail
     refine C2.out.mono ?_
     rintro e w4 ⟨vb,rfl,hob,b4⟩
     have SF:=Lib.hid (SameFlows_any (la:=debtsL ls cu) (lb:=debtsL ls cu) ((RA.out.below b4).reads (by have:=DL.out; omega)) (Reads.of_owns hob (by have:=DL.out; omega)))
     rw [decide_eq_true rfl] at SF
     have L3:=Lib.hid (L2.out.below b4)
     have R3:=Lib.hid (R2.out.below b4)
     have B3:=Lib.hid (B2.out.trans (b4.mono B2.out.size))
     have KX3:=Lib.hid (KX2.out.below b4 KX2.out.lt)
     have RA3:=Lib.hid (RA.out.below b4)
     have hW4:=b4.size
     clear hob b4 C2 L2 R2 B2 KX2 RA kx e0 e1
     go_wp2_with fail
     refine SF.out.mono ?_
     rintro e w5 ⟨rfl,b5⟩
     have RS:=Lib.hid (show Rest13 w G M r X ps ls vp vl cu q w5 from ⟨L3.out.below b5,R3.out.below b5,KX3.out.below b5 KX3.out.lt,B3.out.trans (b5.mono B3.out.size)⟩)
     have RA5:=Lib.hid (RA3.out.below b5)
     have hW5:=b5.size
     have FR:=Lib.hid (Rest13.far (w0:=w) (G:=G) (M:=M) (r:=r) (X:=X) (base:=W.heap.size) (ps:=ps) (ls:=ls) (vp:=vp) (vl:=vl) (cu:=cu) (q:=q) (by omega) (by omega) (by omega) (by omega) PV.out LV.out (by have:=B3.out.size; omega))
     clear b5 SF L3 R3 B3 KX3 RA3
     have T0:=Lib.hid (TailO.start FR.out RS.out (show W.heap.size≤w5.heap.size by omega))
     have RA6:=Lib.hid (RA5.out.alloc (.cells #[.slice none 0 0] 42))
     clear RS RA5
     obtain ⟨ao1,pc1,hv1,hm1⟩:=rowed_flow RA6.out
     simp only [Value.slice.injEq] at hv1
     obtain ⟨rfl,_,rfl⟩:=hv1
     have CF:=Lib.hid (flows_any T0.out.book (by simp) aoa (debtsL ls cu).length (debtsL ls cu).length)
     go_wp2_with fail
     generalize hbk:w5.heap.size=bk at *
     generalize w5.alloc (.cells #[.slice none 0 0] 42)=V at *
     refine CF.out.mono ?_
     rintro e V2 hp
     have he:=hp.1
     subst he
     obtain ⟨bv1,ht1⟩:=T0.out.add FR.out (hm1 _ _).1 (fun b hb=>⟨((hm1 _ _).2 b hb).1,by simp⟩) hp
     obtain ⟨_,_,_,hkk⟩:=hp
     have T1:=Lib.hid ht1
     clear ht1 hkk CF RA6 T0
     have KX7:=T1.out.rest.ask
     have kx:=KX7.lt
     have e0:=KX7.cell 0; have e1:=KX7.cell 1
     simp at e0 e1
     clear KX7
     go_wp2_with fail
     refine (HDo.out.at_ T1.out.rest.led I0.out cu HX.out.1).mono ?_
     rintro e V3 ⟨vc,rfl,rc,b7⟩
     obtain ⟨aoc,rfl,_⟩:=rowed_shape rc
     have T2:=Lib.hid (T1.out.below FR.out b7)
     obtain ⟨ao2,pc2,hv2,hm2⟩:=rowed_flow rc
     simp only [Value.slice.injEq] at hv2
     obtain ⟨rfl,_,rfl⟩:=hv2
     have HM2:=Lib.hid (fun m p b hb=>(hm2 m p).2 b hb)
     have FRS:=Lib.hid (fun (b:Nat) (hb:V2.heap.size≤b)=>T1.out.fresh hb)
     have CF:=Lib.hid (flows_any T2.out.book (by simp) aoc (debtsL ls cu).length (debtsL ls cu).length)
     clear rc b7 T1 kx e0 e1
     go_wp2_with fail
     refine CF.out.mono ?_
     rintro e V4 hp
     have he:=hp.1
     subst he
     obtain ⟨bv2,ht2⟩:=T2.out.add FR.out (hm2 _ _).1 (fun b hb=>FRS.out b ((hm2 _ _).2 b hb).1) hp
     have T3:=Lib.hid ht2
     clear ht2 hp CF T2 hm1 hm2 HM2 FRS
     have KX7:=T3.out.rest.ask
     have kx:=KX7.lt
     have e0:=KX7.cell 0; have e1:=KX7.cell 1
     simp at e0 e1
     clear KX7
     go_wp2_with fail
     refine (HNo.out.at_ T3.out.rest.led I0.out cu q HX.out.1 HX.out.2).mono ?_
     rintro e V5 ⟨gone,many,er,ms,ha,rfl,hL5,k5⟩
     have IN:=Lib.hid (ha.inv I0.out)
     have RN:=T3.out.rest.ref.ne13 (show M<r by omega)
     have R5:=Lib.hid (T3.out.rest.ref.keep k5 RN.1 RN.2.1 RN.2.2)
     have KX5:=Lib.hid (T3.out.rest.ask.keep k5 (by show ¬ X=M; omega))
     have B5:=Lib.hid (T3.out.rest.from_.trans (k5.below T3.out.rest.from_.size (fun q hq e=>by omega)))
     have L5:=Lib.hid hL5
     have T4:=Lib.hid (T3.out.aside (R':=fun _=>True) k5 (fun b e=>by omega) trivial)
     have HAns:=Lib.hid ha
     clear hL5 k5 RN T3 ha kx e0 e1
     have kx:=KX5.out.lt
     have e0:=KX5.out.cell 0; have e1:=KX5.out.cell 1
     simp at e0 e1
     go_wp2_with fail
     refine (rnet_any HRo.out R5.out I0.out HX.out.1 HX.out.2).mono ?_
     rintro e V6 ⟨gone2,many2,er2,ms2,ha2,rfl,⟨vl6,hR6⟩,k6⟩
     obtain ⟨rfl,rfl,rfl,rfl⟩:=ha2.eq HAns.out
     have R6:=Lib.hid hR6
     have L6:=Lib.hid (L5.out.keep k6 (by show ¬ G=r; omega) (by show ¬ M=r; omega))
     have B6:=Lib.hid (B5.out.trans (k6.below B5.out.size (fun q hq e=>by omega)))
     have T5:=Lib.hid (T4.out.aside (R':=fun _=>True) k6 (fun b e=>by omega) trivial)
     clear hR6 k6 ha2 HAns L5 R5 KX5 B5 T4 kx e0 e1
     have SM:=Lib.hid (lawSame_any L6.out IN.out R6.out (by have:=IN.out.len13; omega))
     go_wp2_with fail
     refine SM.out.mono ?_
     rintro e V7 ⟨rfl,b7⟩
     have L7:=Lib.hid (L6.out.below b7)
     have R7:=Lib.hid (R6.out.below b7)
     have B7:=Lib.hid (B6.out.trans (b7.mono B6.out.size))
     have T6:=Lib.hid (T5.out.below (fun _ _ _ _ _ _=>trivial) b7)
     clear b7 SM L6 R6 B6 T5
     have CV:=Lib.hid (apart_any T6.out.book (by simp) T6.out.mem T6.out.apart)
     go_wp2_with fail
     refine CV.out.mono ?_
     rintro e V8 ⟨rfl,ky⟩
     have LOW:=T6.out.low
     have L8:=Lib.hid (L7.out.keep ky (by rintro ⟨p,hp,ho⟩; have:=LOW p hp _ ho; omega) (by rintro ⟨p,hp,ho⟩; have:=LOW p hp _ ho; omega))
     have R8:=Lib.hid (R7.out.keep ky (by rintro ⟨p,hp,ho⟩; have:=LOW p hp _ ho; omega) (fun b hb=>flow_own T6.out (by intro p hp; simp at hp; rcases hp with rfl | rfl <;> rfl) (by decide) R7.out.p hb) (fun b hb=>flow_own T6.out (by intro p hp; simp at hp; rcases hp with rfl | rfl <;> rfl) (by decide) R7.out.l hb))
     have B8:=Lib.hid (B7.out.trans (ky.below B7.out.size (by rintro b hb ⟨p,hp,ho⟩; have:=LOW p hp _ ho; omega)))
     clear ky CV LOW T6 L7 R7 B7
     go_wp2_with fail
     exact ⟨⟨k + 1,ps,_,vp,vl6,by have:=HK.out; omega,by go_num,L8.out,IN.out,R8.out,B8.out⟩,by simp [intOf]; have:=HK.out; omega⟩
    ·have hkn:k=len2:=by omega
     subst hkn
     clear L0 I0 R0
     go_wp2_with fail
     refine (HLo.out _).mono ?_
     rintro e w9 ⟨rfl,b9⟩
     have B9:=Lib.hid (B0.out.trans (b9.mono B0.out.size))
     clear b9
     go_wp2_with fail
     go_ret
     exact ⟨rfl,B9.out⟩
end Go.Proofs.YtlbjjkbppbmihaaGreat
namespace Go.Proofs.YtlbjjkbppbmihaaGreat
open Go.RowKit
structure BelowD (B:Nat) (w w':World):Prop extends Below B w w' where
 dr:w.drawn≤w'.drawn
theorem BelowD.refl (B:Nat) (w:World):BelowD B w w:=⟨Below.refl B w,Nat.le_refl _⟩
theorem BelowD.trans {B:Nat} {a b c:World} (h:BelowD B a b) (k:BelowD B b c):BelowD B a c:=⟨h.toBelow.trans k.toBelow,Nat.le_trans h.dr k.dr⟩
theorem BelowD.mono {B B':Nat} {w w':World} (h:BelowD B w w') (hb:B'≤B):BelowD B' w w':=⟨h.toBelow.mono hb,h.dr⟩
theorem BelowD.alloc {B:Nat} {a w:World} (h:BelowD B a w) (hb:B≤w.heap.size) (o:Obj):BelowD B a (w.alloc o):=⟨h.toBelow.alloc hb o,h.dr⟩
theorem BelowD.grown {w w':World} (h:BelowD w.heap.size w w'):∃ q os',w'=Go.Sort.grow (w.drewN q) os':=by
 refine ⟨w'.drawn - w.drawn,w'.heap.extract w.heap.size w'.heap.size,?_⟩
 have hd:=h.dr
 have hh:w'.heap=w.heap++w'.heap.extract w.heap.size w'.heap.size:=by
  apply Array.ext_getElem?
  intro i
  by_cases hi:i<w.heap.size
  ·rw [h.block i hi,Array.getElem?_append_left hi]
  ·rw [Array.getElem?_append_right (by omega),Array.getElem?_extract]
   by_cases hi2:i<w'.heap.size
   ·rw [if_pos (by simp; omega)]; congr 1; omega
   ·rw [if_neg (by simp; omega),Array.getElem?_eq_none (by omega)]
 obtain ⟨h0,h1,h2,h3,h4⟩:=w'
 obtain ⟨g0,g1,g2,g3,g4⟩:=w
 have e1:=h.os; have e2:=h.tape; have e3:=h.output
 simp only at hh e1 e2 e3 hd
 subst e1 e2 e3
 simp only [Go.Sort.grow,World.drewN]
 rw [← hh]
 congr 1
 omega
end Go.Proofs.YtlbjjkbppbmihaaGreat
