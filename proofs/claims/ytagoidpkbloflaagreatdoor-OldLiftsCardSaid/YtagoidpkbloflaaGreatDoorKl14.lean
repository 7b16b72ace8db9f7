import Derived.Test.YtagoidpkbloflaaGreatDoorKlq
import Derived.Test.YtagoidpkbloflaaGreatDoorKl13
namespace Go.Proofs.YtagoidpkbloflaaGreatDoor
open Lib (hid)
set_option maxRecDepth 100000
set_option maxHeartbeats 8000000
section
open Go.RowKit
theorem uc:liesAt Tryz.prog Tryz.prog.depth 187 (2 / Tryz.prog.cellsOf 187) 0 184 1=true:=by kernel_rfl
def bI (w:World) (B b:Nat) (l:List UInt8):Prop:=Lib.IsBuilder 187 5 B b (Lib.byteCells l) w
theorem Cs (w:World) (B:Nat) (h:B≤w.heap.size):bI (w.alloc (.cells #[.pointer none,.slice none 0 0] 187)) B w.heap.size [] :=
 .inl ⟨h,.slice none 0 0,Dg w _,Ev _ _ _ _,by simp [Value.ownBlock]⟩
theorem bI.below {w w':World} {B b:Nat} {l:List UInt8} (h:bI w B b l) (hb:Below w.heap.size w w'):bI w' B b l:=by
 have hone:∀ {p:Value},Lib.BuilderAt 187 5 B b p (Lib.byteCells l) w→Lib.BuilderAt 187 5 B b p (Lib.byteCells l) w':=by
  intro p h;have hlt:=h.lt;obtain ⟨hB,v,hbk,hown,hne⟩:=h;refine ⟨hB,v,(hb.block b hlt).trans hbk,?_,hne⟩;refine Dt hown (row:=none) ⟨hb.os,hb.tape,hb.output,hb.size,fun k hk _=>hb.block k hk⟩ ?_;cases hv:v.ownBlock with
  | none=>exact .inl rfl
  | some g=>exact .inr (by simp)
 rcases h with h | h
 ·exact .inl (hone h)
 ·exact .inr (hone h)
theorem bI.lt {w:World} {B b:Nat} {l:List UInt8} (h:bI w B b l):B≤b∧b<w.heap.size:=by
 rcases h with h | h
 ·exact ⟨h.1,h.lt⟩
 ·exact ⟨h.1,h.lt⟩
theorem bI.alloc {w:World} {B b:Nat} {l:List UInt8} (h:bI w B b l) (o:Obj):bI (w.alloc o) B b l:=h.below ((Below.refl _ _).alloc (Db _) _)
theorem Cu (b:Nat) (w:World) (h0:w.cell? ⟨b,0,none⟩=some (.pointer none)) (hsh:w.shape? b=some (187,2)) (hfz:w.frozen? ⟨b,0,none⟩=false) :
 Calls Tryz.prog 170 #[.pointer (some ⟨b,0,none⟩)] w fun e w'=>e=.returned (.tuple #[])∧w'=w.setCell ⟨b,0,none⟩ (.pointer (some ⟨b,0,none⟩)):=by
 obtain ⟨j,hj,hjs⟩:=Option.map_eq_some_iff.1 lK;go_enter Tryz.func170,Tryz.ntmps170
 go_wp2;rw [Lib.run_to_unsafe w ⟨b,0,none⟩ Tryz.underlying182 Tryz.underlying195 hj (by rw [hjs];decide) hsh (Nat.zero_lt_succ 1)];simp only [Result.andThen]
 rw [Oper.upon_value];go_wp2;rw [DR Tryz.func198 (by kernel_rfl) (by kernel_rfl) (by kernel_rfl) (e:=Extern.AbiNoEscape.same) (by kernel_rfl)];rw [Lib.run_noEscape];simp only [Result.andThen]
 rw [Oper.upon_value];go_wp2;rw [Lib.run_from_unsafe w ⟨b,0,none⟩ Tryz.underlying195 Tryz.underlying182 hj hsh uc];simp only [Result.andThen]
 rw [Oper.upon_value];go_wp2
 go_end0
 exact ⟨rfl,rfl⟩
theorem sG (B b:Nat) (l:List UInt8) (w:World) (h:bI w B b l) :
 Calls Tryz.prog 170 #[.pointer (some ⟨b,0,none⟩)] w fun e w'=>e=.returned (.tuple #[])∧Lib.BuilderAt 187 5 B b (.pointer (some ⟨b,0,none⟩)) (Lib.byteCells l) w'∧Below B w w'∧NonB b w w'∧w'.heap.size=w.heap.size:=by
 rcases h with h | h
 ·refine (Cu b w h.cell0 h.shape h.frozen0).mono ?_;rintro e w' ⟨rfl,rfl⟩;exact ⟨rfl,h.used _,(Below.refl B w).setCell (p:=⟨b,0,none⟩) h.1 _,fun k _ hk _=>Eh _ _ _ _ (fun e=>hk e),by simp⟩
 ·refine (lN b w h.cell0).mono ?_;rintro e w' ⟨rfl,rfl⟩;exact ⟨rfl,h,Below.refl B _,fun k _ _ _=>rfl,rfl⟩
theorem sF (B b:Nat) (l:List UInt8) (s:ByteArray) (w:World) (h:bI w B b l) (hlen:l.length+s.size≤140737488355328) (hBw:B≤w.heap.size) :
 Calls Tryz.prog 126 #[.pointer (some ⟨b,0,none⟩),.string s] w fun e w'=>e=.returned (.tuple #[.int .i64 s.size,.nilIface])∧bI w' B b (l++s.data.toList)∧Below B w w'∧NonB b w w':=by
 obtain ⟨i0,hi,hz0,hz1,hz2⟩:=DU fF;have hbl:(Lib.byteCells l).length=l.length:=by simp [Lib.byteCells]
 go_enter Tryz.func126,Tryz.ntmps126
 go_wp2_with fail
 refine (sG B b l _ h).mono ?_;rintro e w1 ⟨rfl,h1,hb1,hn1,hs1⟩;have HN1:=hid hn1;have HS1:=hid hs1;obtain ⟨hB,v,hbk,hown,hne⟩:=h1;have c0:w1.cell? ⟨b,0,none⟩=some (.pointer (some ⟨b,0,none⟩)):=by rw [Lib.cell_of_heap hbk];rfl
 have c1:w1.cell? ⟨b,1,none⟩=some v:=by rw [Lib.cell_of_heap hbk];rfl
 clear hn1 hs1;go_wp2_with (at_builtin;refine Lib.wpList_append_own_string _ rfl _ _ 94 9 rfl B 5 i0 Tryz.underlying94 Tryz.underlying9 hi hz0 hz1 hz2 _ _ _ rfl hown s rfl ?c3 ?c4 ?c5 ?_)
 case c3=>rw [hbl];unfold maxLen;omega
 case c4=>rw [hbl];omega
 case c5=>have:=hb1.size;omega
 intro v' w2 hown' hgrow _;have hlt:b<w1.heap.size:=by
  rcases Eg b w1.heap.size with h' | h'
  ·exact h'
  ·simp [Ep h'] at hbk
 have hb2:w2.heap[b]? = some (.cells #[.pointer (some ⟨b,0,none⟩),v] 187 (0,0)):=by
  rw [hgrow.block b hlt (fun e=>hne e.symm)];exact hbk
 have d0:w2.cell? ⟨b,0,none⟩=some (.pointer (some ⟨b,0,none⟩)):=by rw [Lib.cell_of_heap hb2];rfl
 have d1:w2.cell? ⟨b,1,none⟩=some v:=by rw [Lib.cell_of_heap hb2];rfl
 have f1:w2.frozen? ⟨b,1,none⟩=false:=Lib.frozen_of_heap hb2 1;obtain ⟨ao,n',cap,rfl⟩:∃ ao n' cap,v'=.slice ao n' cap:=by
  rcases hown'.2 with ⟨hv,_⟩ | ⟨g,cap,cur,hv,_⟩
  ·exact ⟨_,_,_,hv⟩
  ·exact ⟨_,_,_,hv⟩
 have HO:Hid (w2.ownsRow B 5 1 (.slice ao n' cap) (Lib.byteCells (l++s.data.toList)).length (Lib.byteCells (l++s.data.toList))):=by
  have h:w2.ownsRow B 5 1 (.slice ao n' cap) (Lib.byteCells (l++s.data.toList)).length (Lib.byteCells (l++s.data.toList)):=by
   have e:Lib.byteCells (l++s.data.toList)=Lib.byteCells l++Lib.strCells s:=by simp [Lib.byteCells,Lib.strCells]
   rw [e,Df,Lib.strCells_length,hbl];exact hown'
  exact h
 have HNB:Hid (NonB b w1 w2):=hid (show NonB b w1 w2 from fun k hk hkb hu=>hgrow.block k hk (fun e=>by
  rcases hown.2 with ⟨hv,_⟩ | ⟨g,cap',cur,hv,_,hh,_⟩
  ·rw [hv] at e;cases e
  ·rw [hv] at e;have:k=g:=by simpa [Value.ownBlock] using e
   subst this;exact hu _ _ hh))
 have HSZ:Hid (w1.heap.size≤w2.heap.size):=hid hgrow.size;clear hown';go_wp2;go_ret2;refine ⟨rfl,.inr ?_,?_,?_⟩
 ·exact Lib.BuilderAt.put (T:=187) (e:=5) hB hb2 HO.out (by decide)
 ·exact (hb1.grown hgrow (by have:=hb1.size;omega) (fun k hk=>(hown.lt k hk).1)).setCell (p:=⟨b,1,none⟩) hB _
 ·refine ((HN1.out.trans HNB.out (by rw [HS1.out];exact Db _)).trans (fun k _ hk _=>Eh _ _ _ _ (fun e=>hk e)) ?_);rw [←HS1.out];exact HSZ.out
theorem Cr (B b:Nat) (l:List UInt8) (c:UInt8) (w:World) (h:bI w B b l) (hlen:l.length+1≤140737488355328) (hBw:B≤w.heap.size) :
 Calls Tryz.prog 135 #[.pointer (some ⟨b,0,none⟩),.int .u8 (c.toNat:Int)] w fun e w'=>e=.returned .nilIface∧bI w' B b (l++[c])∧Below B w w'∧NonB b w w':=by
 obtain ⟨i0,hi,hz0,hz1,hz2⟩:=DU fF;have hbl:(Lib.byteCells l).length=l.length:=by simp [Lib.byteCells]
 go_enter Tryz.func135,Tryz.ntmps135
 go_wp2_with fail
 refine (sG B b l _ h).mono ?_;rintro e w1 ⟨rfl,h1,hb1,hn1,hs1⟩;have HN1:=hid hn1;have HS1:=hid hs1;obtain ⟨hB,v,hbk,hown,hne⟩:=h1;have c0:w1.cell? ⟨b,0,none⟩=some (.pointer (some ⟨b,0,none⟩)):=by rw [Lib.cell_of_heap hbk];rfl
 have c1:w1.cell? ⟨b,1,none⟩=some v:=by rw [Lib.cell_of_heap hbk];rfl
 clear hn1 hs1;have hownB:aY w1 B v l:=by have h:=hown;rw [hbl] at h;exact h
 go_wp2_with (at_builtin;refine lg rfl _ _ rfl B v l rfl (hownB.alloc _) ⟨w1.heap.size,0,none⟩ 1 rfl (c.toNat:Int) c ?c3 rfl ?c4 ?c5 ?_)
 case c3=>simp [Addr.add]
 case c4=>omega
 case c5=>have:=hb1.size;simp;omega
 intro v' w2 hown' hgrow0 _;have hgrow:w1.grownBy w2 v.ownBlock:=⟨hgrow0.os,hgrow0.tape,hgrow0.output,Dl (by simp) hgrow0.size,fun k hk hne=>(hgrow0.block k (by simp;omega) hne).trans (Below.heap_alloc _ _ _ hk)⟩;have hlt:b<w1.heap.size:=by
  rcases Eg b w1.heap.size with h' | h'
  ·exact h'
  ·simp [Ep h'] at hbk
 have hb2:w2.heap[b]? = some (.cells #[.pointer (some ⟨b,0,none⟩),v] 187 (0,0)):=by
  rw [hgrow.block b hlt (fun e=>hne e.symm)];exact hbk
 have d0:w2.cell? ⟨b,0,none⟩=some (.pointer (some ⟨b,0,none⟩)):=by rw [Lib.cell_of_heap hb2];rfl
 have d1:w2.cell? ⟨b,1,none⟩=some v:=by rw [Lib.cell_of_heap hb2];rfl
 have f1:w2.frozen? ⟨b,1,none⟩=false:=Lib.frozen_of_heap hb2 1;obtain ⟨ao,n',cap,rfl⟩:∃ ao n' cap,v'=.slice ao n' cap:=by
  rcases hown'.2 with ⟨hv,_⟩ | ⟨g,cap,cur,hv,_⟩
  ·exact ⟨_,_,_,hv⟩
  ·exact ⟨_,_,_,hv⟩
 have HO:Hid (w2.ownsRow B 5 1 (.slice ao n' cap) (Lib.byteCells (l++[c])).length (Lib.byteCells (l++[c]))):=by
  have h:w2.ownsRow B 5 1 (.slice ao n' cap) (Lib.byteCells (l++[c])).length (Lib.byteCells (l++[c])):=by
   have e:(Lib.byteCells (l++[c])).length=(l++[c]).length:=by simp [Lib.byteCells]
   rw [e];exact hown'
  exact h
 have HNB:Hid (NonB b w1 w2):=hid (show NonB b w1 w2 from fun k hk hkb hu=>hgrow.block k hk (fun e=>by
  rcases hown.2 with ⟨hv,_⟩ | ⟨g,cap',cur,hv,_,hh,_⟩
  ·rw [hv] at e;cases e
  ·rw [hv] at e;have:k=g:=by simpa [Value.ownBlock] using e
   subst this;exact hu _ _ hh))
 have HSZ:Hid (w1.heap.size≤w2.heap.size):=hid hgrow.size;clear hown' hownB;go_wp2;go_ret;refine ⟨rfl,.inr ?_,?_,?_⟩
 ·exact Lib.BuilderAt.put (T:=187) (e:=5) hB hb2 HO.out (by decide)
 ·exact (hb1.grown hgrow (by have:=hb1.size;omega) (fun k hk=>(hown.lt k hk).1)).setCell (p:=⟨b,1,none⟩) hB _
 ·refine ((HN1.out.trans HNB.out (by rw [HS1.out];exact Db _)).trans (fun k _ hk _=>Eh _ _ _ _ (fun e=>hk e)) ?_);rw [←HS1.out];exact HSZ.out
theorem sE (B b:Nat) (l:List UInt8) (w:World) (h:bI w B b l) :
 Calls Tryz.prog 138 #[.pointer (some ⟨b,0,none⟩)] w fun e w'=>e=.returned (.int .i64 (l.length:Int))∧w=w':=by
 have hbl:(Lib.byteCells l).length=l.length:=by simp [Lib.byteCells]
 obtain ⟨p,hB,v,hbk,hown,hne⟩:∃ p,Lib.BuilderAt 187 5 B b p (Lib.byteCells l) w:=by
  rcases h with h | h
  ·exact ⟨_,h⟩
  ·exact ⟨_,h⟩
 have c1:w.cell? ⟨b,1,none⟩=some v:=by rw [Lib.cell_of_heap hbk];rfl
 obtain ⟨a,cp,rfl⟩:∃ a cp,v=.slice a l.length cp:=by
  rcases hown.2 with ⟨hv,h0⟩ | ⟨g,cap,cur,hv,_⟩
  ·exact ⟨none,0,by rw [hv];rw [hbl] at h0;rw [h0]⟩
  ·exact ⟨_,_,by rw [hv,hbl]⟩
 generalize l.length=n at c1 ⊢;clear hown hbk hne hbl h;go_enter Tryz.func138,Tryz.ntmps138
 go_wp2;go_ret;exact ⟨rfl,rfl⟩
theorem Ct (B b:Nat) (l:List UInt8) (w:World) (h:bI w B b l) (h0:l≠[]) :
 Calls Tryz.prog 127 #[.pointer (some ⟨b,0,none⟩)] w fun e w'=>e=.returned (.string ⟨l.toArray⟩)∧Below B w w':=by
 have hbl:(Lib.byteCells l).length=l.length:=by simp [Lib.byteCells]
 obtain ⟨p,hB,v,hbk,hown,hne⟩:∃ p,Lib.BuilderAt 187 5 B b p (Lib.byteCells l) w:=by
  rcases h with h | h
  ·exact ⟨_,h⟩
  ·exact ⟨_,h⟩
 rw [hbl] at hown;have hpos:0<l.length:=EJ.2 h0;obtain ⟨g,cap,cur,hv,hbg,hg,hcl,hcm,hcs⟩:∃ g cap cur,v=.slice (some ⟨g,0,none⟩) l.length cap∧B≤g∧w.heap[g]? = some (.cells cur 5 (0,0))∧l.length≤cap∧cap≤maxLen∧cur.size=cap * 1:=by
  rcases hown.2 with ⟨hv,hn⟩ | ⟨g,cap,cur,hv,hb,hh,hc,hm,hs,_⟩
  ·exact absurd hn (by omega)
  ·exact ⟨g,cap,cur,hv,hb,hh,hc,hm,hs⟩
 subst hv;have c1:w.drew.cell? ⟨b,1,none⟩=some (.slice (some ⟨g,0,none⟩) l.length cap):=by
  have:w.drew.heap[b]? = some (.cells #[p,.slice (some ⟨g,0,none⟩) l.length cap] 187 (0,0)):=hbk;rw [Lib.cell_of_heap this];rfl
 have hSD:(Builtin.unsafeSliceData_ #[94] 226 #[.slice (some ⟨g,0,none⟩) l.length cap]).run Tryz.prog w.drew=.ok (.pointer (some ⟨g,0,none⟩)) w.drew :=
  Lib.run_unsafeSliceData_row _ _ _ _ _ _ (by omega)
 have hUS:(Builtin.unsafeString_ #[226,3] 9 #[.pointer (some ⟨g,0,none⟩),.int .i64 l.length]).run Tryz.prog w.drew=.ok (.string ⟨l.toArray⟩) (w.drew.freeze ⟨g,0,none⟩ l.length):=by
  refine Lib.run_unsafeString_row w.drew 226 3 9 5 Tryz.underlying226 (by kernel_rfl) g cur.size (by have hg':w.drew.heap[g]? = some (.cells cur 5 (0,0)):=hg;simp [World.shape?,hg']) l h0 (by omega) (by unfold maxLen at hcm;omega) ?_;intro j x hx;have:=hown.cells (g:=g) rfl j (.int .u8 x.toNat) (by simp [Lib.byteCells,hx]);exact this
 clear hown hcl hcm hpos hcs;go_enter Tryz.func127,Tryz.ntmps127
 go_wp2;go_region
 all_goals (go_wp2;go_ret;exact ⟨rfl,Lib.below_freeze (Below.drew (Below.refl B w)) (p:=⟨g,0,none⟩) hbg _⟩)
end
section
open Go.RowKit
theorem wI:(Tryz.prog.info? 22).map (fun i=>(i.zero,i.size,i.bytes))=some (some (.slice none 0 0),1,24):=by kernel_rfl
def aL (w:World) (base:Nat) (v:Value) (l:List Value):Prop:=w.ownsRow base 22 1 v l.length l
theorem jX (w:World) (base:Nat):aL w base (.slice none 0 0) []:=Ev _ _ _ _
theorem aL.alloc {w:World} {base:Nat} {v:Value} {l:List Value} (h:aL w base v l) (o:Obj):aL (w.alloc o) base v l:=EI h o
theorem aL.drewN {w:World} {base:Nat} {v:Value} {l:List Value} (h:aL w base v l) (n:Nat):aL (w.drewN n) base v l:=h
theorem aL.lt {w:World} {base:Nat} {v:Value} {l:List Value} (h:aL w base v l):∀ k,v.ownBlock=some k→base≤k∧k<w.heap.size:=DQ h
theorem aL.below {w w':World} {base:Nat} {v:Value} {l:List Value} (h:aL w base v l) (hb:Below w.heap.size w w'):aL w' base v l:=by
 refine Dt h (row:=none) ⟨hb.os,hb.tape,hb.output,hb.size,fun k hk _=>hb.block k hk⟩ ?_;cases hv:v.ownBlock with
 | none=>exact .inl rfl
 | some g=>exact .inr (by simp)
theorem aL.forms {w:World} {base:Nat} {v:Value} {l:List Value} (h:aL w base v l) :
 (v=.slice none 0 0∧l=[])∨∃ g cap,v=.slice (some ⟨g,0,none⟩) l.length cap∧base≤g∧g<w.heap.size∧(∃ cur,w.heap[g]? = some (.cells cur 22 (0,0)))∧∀ j u,l[j]? = some u→w.cell? ⟨g,j,none⟩=some u:=by
 have hall:=h;obtain ⟨h0,h1⟩:=h;rcases h1 with ⟨rfl,hn⟩ | ⟨g,cap,cur,rfl,hb,hh,hc,hm,hs,ht⟩
 ·exact .inl ⟨rfl,E0.1 hn⟩
 ·refine .inr ⟨g,cap,rfl,hb,(DQ hall g rfl).2,⟨cur,hh⟩,fun j u hj=>?_⟩;have hjl:j<l.length:=(Do.1 hj).1;rw [Ej hall j (by omega)];exact hj
theorem li {w:World} {ops:Array Oper} {rest:List Oper} {o:Oper} {a:Act} {Q:Exit→Act→World→Prop} (hgd:o.guard=none) (s x:Operand)
 (ho:o.op=.call { callee:=.builtin .append,args:=#[s,x],argTypes:=#[136,136] })
 (base:Nat) (v:Value) (l:List Value) (hs:a.eval s=v) (hown:aL w base v l)
 (ad:Addr) (c:Nat) (hx:a.eval x=.slice (some ad) 1 c) (d:Value) (hd:∃ a n m,d=.slice a n m) (hcell:w.cell? (ad.add 0)=some d)
 (hlen:l.length+1≤1000000) (hbase:base≤w.heap.size)
 (h:∀ g cap w',aL w' base (.slice (some ⟨g,0,none⟩) (l.length+1) cap) (l++[d])→w.grownBy w' v.ownBlock→wpList Tryz.prog ops Q rest (a.put o.dst (.slice (some ⟨g,0,none⟩) (l.length+1) cap)) w'):wpList Tryz.prog ops Q (o::rest) a w:=by
 obtain ⟨i0,hi,hz0,hz1,hz2⟩:=DU wI;refine wpList_append_lies w hgd s x 136 ho base 22 i0 (.slice none 0 0) 1 24 Tryz.underlying136 hi hz0 hz1 hz2 rfl (by decide) v l.length l hs hown ad 1 c [d] hx rfl ?_ ?_ (by decide) (by unfold maxLen;omega) (by omega) hbase _ rfl ?_
 ·intro j u hj
  match j,hj with
  | 0,hj=>simp at hj;subst hj;exact hcell
 ·intro u hu;simp at hu;subst hu;obtain ⟨a,n,m,rfl⟩:=hd;rfl
 ·intro g cap w' h1 h2 _ _;refine h g cap w' ?_ h2;unfold aL;rw [Df];exact h1
def areE (w:World):List Value→List (List Ent)→Prop
 | [],[]=>True
 | v::vs,r::rs=>ae w v r∧areE w vs rs
 | _,_=>False
theorem lC {w:World} {vs:List Value}:∀ {rs:List (List Ent)},areE w vs rs→vs.length=rs.length:=by
 induction vs with
 | nil=>intro rs h;cases rs with
  | nil=>rfl
  | cons r rs=>exact h.elim
 | cons v vs ih=>intro rs h;cases rs with
  | nil=>exact h.elim
  | cons r rs=>simp [ih h.2]
theorem lD {w:World} {vs:List Value} {v:Value} {r:List Ent} (hv:ae w v r):∀ {rs:List (List Ent)},areE w vs rs→areE w (vs++[v]) (rs++[r]):=by
 induction vs with
 | nil=>intro rs h;cases rs with
  | nil=>exact ⟨hv,trivial⟩
  | cons r rs=>exact h.elim
 | cons v vs ih=>intro rs h;cases rs with
  | nil=>exact h.elim
  | cons r rs=>exact ⟨h.1,ih h.2⟩
theorem ox {w:World} {vs:List Value}:∀ {rs:List (List Ent)} {i:Nat} {r:List Ent},areE w vs rs→rs[i]? = some r→∃ v,vs[i]? = some v∧ae w v r:=by
 induction vs with
 | nil=>intro rs i r h hi;cases rs with
  | nil=>simp at hi
  | cons r rs=>exact h.elim
 | cons v vs ih=>intro rs i r h hi;cases rs with
  | nil=>exact h.elim
  | cons r rs=>cases i with
   | zero=>simp at hi;subst hi;exact ⟨v,by simp,h.1⟩
   | succ i=>simp at hi;obtain ⟨u,h1,h2⟩:=ih h.2 hi;exact ⟨u,by simpa using h1,h2⟩
end
section
open Go.RowKit
def numB (K N:Int):ByteArray:=if K=3 then ⟨(putL (zigN N).toNat).toArray⟩ else if K=4 then ⟨(putL N.toNat).toArray⟩ else ⟨#[]⟩
def valB (K:Int) (val:ByteArray):ByteArray:=if hasV K=true then bT val else ⟨#[]⟩
def b7 (K:Int) (val:ByteArray) (N:Int):ByteArray:=numB K N++valB K val
def getN (K:Int) (l:List UInt8):Int×Nat×Nat:=if K=3 then (zagN (getL l).1,(getL l).2.1,(getL l).2.2) else if K=4 then (((intL l 1000).1:Int),(intL l 1000).2.1,(intL l 1000).2.2) else (0,0,0)
def getV (K:Int) (l:List UInt8):List UInt8×Nat×Nat:=if hasV K=true then getS l else ([],0,0)
theorem m4 (K:Int) (l:List UInt8):(getN K l).2.1≤l.length∧(getN K l).2.1≤10:=by
 unfold getN;rcases cu l with ⟨e,hg,he⟩ | ⟨n,k,hg,hn,hk1,hk2,hk3⟩
 ·split
  ·rw [hg];simp
  ·split
   ·rw [f8 hg he];simp
   ·simp
 ·split
  ·rw [hg];simp;omega
  ·split
   ·by_cases hm:(1000:Int)<0∨(1000:Int)<n
    ·rw [dG hg hm];simp
    ·rw [eo hg hm];simp;omega
   ·simp
end
section
open Go.RowKit
theorem rd (s:ByteArray) (w:World) (hs:s.size≤2000) :
 Calls Tryz.prog 47 #[.string s] w fun r w'=>r=.returned (.tuple #[.string (bT s),.int .i64 0])∧Below w.heap.size w w':=by
 have hl:=aK (n:=s.size) (by omega);have HP:Hid (bT s=⟨(putL s.size).toArray⟩++s):=rfl;go_enter Tryz.func47,Tryz.ntmps47
 go_wp2_with (go_at_call 20;refine (eC s.size _ (by omega)).mono ?_;rintro r w1 ⟨rfl,hb1⟩)
 go_ret2;exact ⟨by rw [HP.out];rfl,by assumption⟩
theorem kp (s:ByteArray) (w:World) (hs:s.size≤140737488351232) :
 Calls Tryz.prog 37 #[.string s] w fun r w'=>r=.returned (dJ (getS s.data.toList))∧w=w':=by
 have hs2:s.size≤maxLen:=by unfold maxLen;omega
 rcases cu s.data.toList with ⟨e,hg,he⟩ | ⟨n,k,hg,hn,hk1,hk2,hk3⟩
 ·have HP : Hid (dJ (getS s.data.toList) = .tuple #[.string ⟨#[]⟩, .int .i64 0, .int .i64 e]) := by
   show dJ _=_
   rw [g9 hg he];rfl
  have HG:=hid hg;have hne:((e:Int) != 0)=true:=by simp;omega
  clear hg;rw [HP.out];go_enter Tryz.func37,Tryz.ntmps37
  go_wp2_with (go_at_call 61;refine (nY _ _ hs2 e HG.out).mono ?_;rintro r w' ⟨rfl,rfl⟩)
  go_ret3;exact ⟨rfl,rfl⟩
 ·rw [←ac] at hk3;by_cases h2:2000<n
  ·have HP : Hid (dJ (getS s.data.toList) = .tuple #[.string ⟨#[]⟩, .int .i64 0, .int .i64 4]) := by
    show dJ _=_
    rw [ga hg h2];rfl
   have HG:=hid hg;clear hg;rw [HP.out];go_enter Tryz.func37,Tryz.ntmps37
   go_wp2_with (go_at_call 61;refine (dd _ _ hs2 n k HG.out).mono ?_;rintro r w' ⟨rfl,rfl⟩)
   go_ret3;exact ⟨rfl,rfl⟩
  ·have h2':n≤2000:=by omega
   by_cases h3:s.size<k+n
   ·have HP : Hid (dJ (getS s.data.toList) = .tuple #[.string ⟨#[]⟩, .int .i64 0, .int .i64 7]) := by
     show dJ _=_
     rw [gb hg h2 (by rw [←ac];exact h3)];rfl
    have HG:=hid hg;clear hg h2;rw [HP.out];go_enter Tryz.func37,Tryz.ntmps37
    go_wp2_with (go_at_call 61;refine (dd _ _ hs2 n k HG.out).mono ?_;rintro r w' ⟨rfl,rfl⟩)
    go_ret3;exact ⟨rfl,rfl⟩
   ·have hx:s.extract k (k+n)=⟨((s.data.toList.drop k).take n).toArray⟩:=cX (by rw [cE,List.drop_take,Nat.add_sub_cancel_left]);have HP:Hid (dJ (getS s.data.toList)=.tuple #[.string (s.extract k (k+n)),.int .i64 ((k:Int)+n),.int .i64 0]):=by
     show dJ _=_
     rw [gc hg h2 (by rw [←ac];exact h3),hx];rfl
    have HG:=hid hg;have h3':k+n≤s.size:=by omega
    clear hg h2 h3 hx;rw [HP.out];go_enter Tryz.func37,Tryz.ntmps37
    go_wp2_with (go_at_call 61;refine (dd _ _ hs2 n k HG.out).mono ?_;rintro r w' ⟨rfl,rfl⟩)
    go_ret3;exact ⟨rfl,rfl⟩
end
section
open Go.RowKit
theorem oD (v:Value) (l:List Ent) (w:World) (hv:ae w v l) (h0:l≠[]) (hl:l.length≤1000000) (hr:∀ e∈l,0≤e.rep∧e.rep≤1000000) :
 Calls Tryz.prog 153 #[v] w fun r w'=>r=.returned (.int .i64 ((l.getLastD ⟨0,0⟩).rep+2))∧w=w':=by
 have hlen:0<l.length:=EJ.2 h0;obtain ⟨a1,c1,rfl,f1⟩:=hv.form;have ht:l[l.length-1]? = some (l.getLastD ⟨0,0⟩):=by
  rw [←List.getLast?_eq_getElem?];cases l with
  | nil=>exact absurd rfl h0
  | cons e t=>simp [List.getLast?_cons]
 obtain ⟨b1,o1,rfl,_,p0,_⟩:=f1 _ _ ht;have hm:=hr _ (DB ht);generalize l.getLastD ⟨0,0⟩=e at *;obtain ⟨rep,time⟩:=e;simp only at p0 hm ⊢
 obtain ⟨n,hn⟩:∃ n,n=l.length:=⟨_,rfl⟩;rw [←hn] at hl hlen p0 ⊢;obtain ⟨j,hj⟩:∃ j,j=n-1:=⟨_,rfl⟩;rw [←hj] at p0;have hj1:(n:Int)-1=(j:Int):=by omega
 have hj2:j<n:=by omega
 clear hv f1 hn ht hr h0 hj;go_enter Tryz.func153,Tryz.ntmps153
 go_wp2;go_ret;exact ⟨rfl,rfl⟩
def t7 (w:World) (u:Value) (l:List Ent) (rs:List (List Ent)) (e:Ending) (w':World):Prop :=
 ∃ v vs,e=.returned v∧aL w' w.heap.size v vs∧(∀ W,ae W u l→areE W vs rs)∧vs.length=rs.length∧Below w.heap.size w w'
theorem v7 (v:Value) (l:List Ent) (w:World) (hv:ae w v l) (hl:l.length≤100000) (hr:∀ e∈l,0≤e.rep∧e.rep≤1000000) :
 Calls Tryz.prog 173 #[v] w (t7 w v l (aM l)):=by
 by_cases hz:l.length=0
 ·obtain rfl:=E0.1 hz;obtain ⟨a1,c1,rfl,_⟩:=hv.form;have HR:Hid (aM ([]:List Ent)=[]):=rfl;rw [HR.out];clear hv hl hr hz;go_enter Tryz.func173,Tryz.ntmps173
  go_wp2;refine EA 1 ?_;rw [Ec];go_wp2;go_ret;exact ⟨_,[],rfl,jX _ _,fun _ _=>trivial,rfl,Below.refl _ _⟩
 ·obtain ⟨b,off,c,rfl,hlc,hb,hcells⟩:=hv.lies (by omega);have HC:=hid hcells;obtain ⟨a1,c1,hav,f1⟩:=hv.form;simp only [EK,true_and] at hav
  obtain ⟨rfl,rfl⟩:=hav;have F1:=hid f1;have HR:=hid hr;obtain ⟨n,hn⟩:∃ n,n=l.length:=⟨_,rfl⟩;rw [←hn] at hl hlc hz ⊢ hv;have HV:=hid hv;have HN:=hid hn;have HLC:=hid hlc;clear hv f1 hn hcells hr;go_enter Tryz.func173,Tryz.ntmps173
  go_wp2
  go_loopw [3,4,8] (fun rv fv i wr=>∃ (k fr:Nat) (vs:List Value) (R:List (List Ent)),k≤n∧i=.int .i64 k∧fv=.int .i64 fr∧fr≤k∧vs.length≤k∧R++cutA ((l.take k).drop fr) (l.drop k)=aM l∧aL wr w.heap.size rv vs∧(∀ W,ae W (.slice (some ⟨b,off,none⟩) n c) l→areE W vs R)∧Below w.heap.size w wr) (fun _ _ i _=>n-(intOf i).toNat)
  case atStart=>exact ⟨0,0,[],[],by omega,rfl,rfl,by omega,Db _,rfl,jX _ _,(fun _ _=>trivial),Below.refl _ _⟩
  case round =>
   obtain ⟨k,fr,vs,R,hk,rfl,rfl,hfr,hvs,heq,hown,hare,hbel⟩:=hrel;have HEQ:=hid heq;have HO:=hid hown;have HA:=hid hare;have HB:=hid hbel;have hzr:=hbel.size;clear heq hown hare hbel;by_cases hlt:k<n
   ·have hkl:k<l.length:=by have:=HN.out;omega
    obtain ⟨t,ht⟩:∃ t,l[k]? = some t:=⟨l[k],Di hkl⟩;have hd:l.drop k=t::l.drop (k+1):=by
     rw [DA hkl];congr 1;rw [Di hkl] at ht;exact Dr ht
    have htk:l.take (k+1)=l.take k++[t]:=by
     rw [E8 hkl];congr 2;rw [Di hkl] at ht;exact Dr ht
    have hcur:(l.take (k+1)).drop fr=(l.take k).drop fr++[t]:=by
     rw [htk,List.drop_append_of_le_length (by rw [DK];omega)]
    obtain ⟨b1,o1,hbo,_,p0,_⟩:=F1.out k t ht;simp only [E1,Eq,and_true] at hbo
    obtain ⟨rfl,rfl⟩:=hbo;have hm:=HR.out t (DB ht);have q0:=(HB.out.cell (p:=⟨b,off+k * 2,none⟩) hb).trans p0;obtain ⟨k1,hk1⟩:∃ k1,k1=k+1:=⟨_,rfl⟩;rw [←hk1] at hd htk hcur;have hfk:fr<k1:=by omega
    have hfk':(fr:Int)≤(k1:Int):=by omega
    have hkc:k1≤c:=by have:=HLC.out;omega
    have hkc':(k1:Int)≤(c:Int):=by omega
    have HP:Hid (∀ W,ae W (.slice (some ⟨b,off,none⟩) n c) l→ae W (.slice (some ⟨b,off+fr * 2,none⟩) (k1-fr) (c-fr)) ((l.take k1).drop fr)):=hid (show ∀ W,ae W (.slice (some ⟨b,off,none⟩) n c) l→ae W (.slice (some ⟨b,off+fr * 2,none⟩) (k1-fr) (c-fr)) ((l.take k1).drop fr) from fun W hW=>by
     obtain ⟨b',off',c',hv',hc',hb',hcs'⟩:=hW.lies (by omega);simp only [EK,E1,Eq,and_true] at hv'
     obtain ⟨⟨rfl,rfl⟩,_,rfl⟩:=hv';exact ae.part hcs' hb' fr k1 (by have:=HN.out;omega) hfk rfl (by omega))
    by_cases hlast:k1=n
    ·subst hlast;have hdn:l.drop k1=[]:=DD (by have:=HN.out;omega);have hcl:cutA ((l.take k).drop fr) (l.drop k)=[(l.take k1).drop fr]:=by
      rw [hd,hdn,pd,hcur]
     have HS:Hid ((R++[(l.take k1).drop fr])++cutA ((l.take k1).drop k1) (l.drop k1)=aM l):=hid (show (R++[(l.take k1).drop fr])++cutA ((l.take k1).drop k1) (l.drop k1)=aM l by
      rw [←HEQ.out,hcl,hdn];have:∀ cur,cutA cur []=[]:=fun _=>rfl
      rw [this,DV])
     have hw1:(k:Int)+1=(k1:Int):=by omega
     have hw2:IntKind.i64.wrap ((k:Int)+1)=(k1:Int):=by rw [hw1];exact Dh _ (by omega)
     have hw3:IntKind.i64.wrap (t.rep+1)=t.rep+1:=Dh _ (by omega);have HK1:=hid hk1;clear hcl hcur htk hd ht p0 hm hk1 hdn;go_wp2
     go_quiet (fail)
     clear hw2 hw3;go_wp2_with (at_builtin;refine li rfl _ _ rfl w.heap.size _ vs rfl ((HO.out.drewN _).alloc _) ⟨wr.heap.size,0,none⟩ 1 rfl (.slice (some ⟨b,off+fr * 2,none⟩) (k1-fr) (c-fr)) ⟨_,_,_,rfl⟩ ?c1 ?c2 ?c3 ?_)
     case c1=>simp [Addr.add];exact Dd _ _ 0 _ _ (0,0) (Dg (World.drewN wr _) _)
     case c2=>omega
     case c3=>simp;omega
     ·intro g cap w2 ho2 hg2;have HB2:Hid (Below w.heap.size w w2):=(((below_drewN HB.out _).alloc (by simp;omega) _).grown hg2 (by simp;omega) (fun g hg=>(HO.out.lt g hg).1));have HO2:=hid ho2;have HA2:Hid (∀ W,ae W (.slice (some ⟨b,off,none⟩) k1 c) l→areE W (vs++[(.slice (some ⟨b,off+fr * 2,none⟩) (k1-fr) (c-fr):Value)]) (R++[(l.take k1).drop fr])):=hid (fun W hW=>lD (HP.out W hW) (HA.out W hW));obtain ⟨vs2,hvs2⟩:∃ vs2,vs++[(.slice (some ⟨b,off+fr * 2,none⟩) (k1-fr) (c-fr):Value)]=vs2:=⟨_,rfl⟩;have hvl:vs2.length=vs.length+1:=by rw [←hvs2];simp
      rw [hvs2] at HO2 HA2;rw [←hvl] at HO2 ⊢;clear ho2 hg2 hvs2;go_wp2;go_roundw
      case rel=>exact ⟨k1,k1,vs2,_,by omega,by first | rfl | go_num,by first | rfl | go_num,Db _,by have:=HK1.out;omega,HS.out,HO2.out,HA2.out,HB2.out⟩
      case measure=>have:=HK1.out;simp [intOf];omega
    ·have hk1l:k1<l.length:=by have:=HN.out;omega
     obtain ⟨d,hdd⟩:∃ d,l[k1]? = some d:=⟨l[k1],Di hk1l⟩;have hd1:l.drop k1=d::l.drop (k1+1):=by
      rw [DA hk1l];congr 1;rw [Di hk1l] at hdd;exact Dr hdd
     obtain ⟨b1,o1,hbo,_,p1,_⟩:=F1.out k1 d hdd;simp only [E1,Eq,and_true] at hbo
     obtain ⟨rfl,rfl⟩:=hbo;have q1:=(HB.out.cell (p:=⟨b,off+k1 * 2,none⟩) hb).trans p1;have hk1n:k1<n:=by omega
     have hk1n':(k1:Int)<(n:Int):=by omega
     have hn1:((k1:Int) == (n:Int))=false:=by simp;omega
     by_cases hgp:t.rep+1<d.rep
     ·have hcl : cutA ((l.take k).drop fr) (l.drop k) = (l.take k1).drop fr :: cutA [] (l.drop k1) := by
       rw [hd,hd1,jr hgp,hcur]
      have HS:Hid ((R++[(l.take k1).drop fr])++cutA ((l.take k1).drop k1) (l.drop k1)=aM l):=hid (show (R++[(l.take k1).drop fr])++cutA ((l.take k1).drop k1) (l.drop k1)=aM l by
       rw [←HEQ.out,hcl,DD (show (l.take k1).length≤k1 by rw [DK];omega)];simp)
      have hw1:(k:Int)+1=(k1:Int):=by omega
      have hw2:IntKind.i64.wrap ((k:Int)+1)=(k1:Int):=by rw [hw1];exact Dh _ (by omega)
      have hw3:IntKind.i64.wrap (t.rep+1)=t.rep+1:=Dh _ (by omega);have HK1:=hid hk1;clear hcl hcur htk hd ht p0 hm hk1 p1 hdd hd1;go_wp2
      go_quiet (fail)
      clear hw2 hw3;go_wp2_with (at_builtin;refine li rfl _ _ rfl w.heap.size _ vs rfl ((HO.out.drewN _).alloc _) ⟨wr.heap.size,0,none⟩ 1 rfl (.slice (some ⟨b,off+fr * 2,none⟩) (k1-fr) (c-fr)) ⟨_,_,_,rfl⟩ ?c1 ?c2 ?c3 ?_)
      case c1=>simp [Addr.add];exact Dd _ _ 0 _ _ (0,0) (Dg (World.drewN wr _) _)
      case c2=>omega
      case c3=>simp;omega
      ·intro g cap w2 ho2 hg2;have HB2:Hid (Below w.heap.size w w2):=(((below_drewN HB.out _).alloc (by simp;omega) _).grown hg2 (by simp;omega) (fun g hg=>(HO.out.lt g hg).1));have HO2:=hid ho2;have HA2:Hid (∀ W,ae W (.slice (some ⟨b,off,none⟩) n c) l→areE W (vs++[(.slice (some ⟨b,off+fr * 2,none⟩) (k1-fr) (c-fr):Value)]) (R++[(l.take k1).drop fr])):=hid (fun W hW=>lD (HP.out W hW) (HA.out W hW));obtain ⟨vs2,hvs2⟩:∃ vs2,vs++[(.slice (some ⟨b,off+fr * 2,none⟩) (k1-fr) (c-fr):Value)]=vs2:=⟨_,rfl⟩;have hvl:vs2.length=vs.length+1:=by rw [←hvs2];simp
       rw [hvs2] at HO2 HA2;rw [←hvl] at HO2 ⊢;clear ho2 hg2 hvs2;go_wp2;go_roundw
       case rel=>exact ⟨k1,k1,vs2,_,by omega,by first | rfl | go_num,by first | rfl | go_num,Db _,by have:=HK1.out;omega,HS.out,HO2.out,HA2.out,HB2.out⟩
       case measure=>have:=HK1.out;simp [intOf];omega
     ·have hcl : cutA ((l.take k).drop fr) (l.drop k) = cutA ((l.take k1).drop fr) (l.drop k1) := by
       rw [hd,hd1,js hgp,hcur]
      have HS:Hid (R++cutA ((l.take k1).drop fr) (l.drop k1)=aM l):=hid (show R++cutA ((l.take k1).drop fr) (l.drop k1)=aM l by
       rw [←HEQ.out,hcl])
      have hgp':d.rep≤t.rep+1:=by omega
      have hw1:(k:Int)+1=(k1:Int):=by omega
      have hw2:IntKind.i64.wrap ((k:Int)+1)=(k1:Int):=by rw [hw1];exact Dh _ (by omega)
      have hw3:IntKind.i64.wrap (t.rep+1)=t.rep+1:=Dh _ (by omega);have HK1:=hid hk1;clear hcl hcur htk hd ht p0 hm hk1 p1 hdd hd1;go_wp2
      go_quiet (fail)
      clear hw2 hw3;go_wp2;go_roundw
      case rel=>exact ⟨k1,fr,vs,R,by omega,by first | rfl | go_num,rfl,by have:=HK1.out;omega,by have:=HK1.out;omega,HS.out,HO.out.drewN _,HA.out,below_drewN HB.out _⟩
      case measure=>have:=HK1.out;simp [intOf];omega
   ·have hkn:k=n:=by omega
    have HRE:Hid (R=aM l):=hid (show R=aM l by
     rw [←HEQ.out,DD (show l.length≤k by have:=HN.out;omega)];have:∀ cur,cutA cur []=[]:=fun _=>rfl
     rw [this,DV])
    obtain rfl:=HRE.out;go_wp2;go_ret;exact ⟨_,vs,rfl,HO.out,HA.out,lC (HA.out w HV.out),HB.out⟩
end
section
open Go.RowKit
theorem xr {T:List ByteArray} {l:List Int} (h:(dupR T).1≠0):aT T l=([],dupR T):=by
 unfold dupR at h ⊢;unfold aT;split at h
 ·rename_i i hi;rw [hi]
 ·simp at h
theorem xv {T:List ByteArray} {l:List Int} (h:(dupR T).1=0) (ho:(ordG T.length 0 l 0).1≠0):aT T l=([],ordG T.length 0 l 0):=by
 unfold dupR at h;unfold aT;split at h
 ·simp at h
 ·rename_i hi;rw [hi];simp only [if_neg ho]
theorem xt {T:List ByteArray} {l:List Int} (h:(dupR T).1=0) (ho:(ordG T.length 0 l 0).1=0):aT T l=(outG T l,0,-1):=by
 unfold dupR at h;unfold aT;split at h
 ·simp at h
 ·rename_i hi;rw [hi];simp only [if_pos ho]
theorem yq (K:Nat) (l:List Int):∀ told i,(ordG K told l i).1=0→∀ n∈l,0≤n∧n<(K:Int):=by
 induction l with
 | nil=>intro told i _ n hn;cases hn
 | cons z r ih =>
  intro told i h n hn;unfold ordG at h;split at h
  ·simp at h
  ·rename_i h1;split at h
   ·simp at h
   ·rcases Et.1 hn with rfl | hn
    ·omega
    ·exact ih _ _ h n hn
theorem qC {T:List ByteArray} {l:List Int} {k j:Nat} {s:ByteArray} (h:l[k]? = some (j:Int)) (hs:T[j]? = some s):outG T (l.take (k+1))=outG T (l.take k)++[s]:=by
 obtain ⟨hk,e⟩:=Do.1 h;rw [←EC hk,e];unfold outG;rw [En];simp [hs]
def tc (w:World) (r:List ByteArray×Nat×Int) (e:Ending) (w':World):Prop :=
 ∃ v err,e=.returned (.tuple #[v,err])∧ak w' w.heap.size v r.1∧az w' err r.2∧Below w.heap.size w w'
theorem x7 (v u:Value) (T:List ByteArray) (l:List Int) (w:World) (hv:ba w v T) (hu:bW w u l) (hT:T.length≤1000000) (hl:l.length≤1000000) (hs:∀ s∈T,s.size≤140737488351232) :
 Calls Tryz.prog 114 #[v,u] w (tc w (aT T l)):=by
 have HV:=hid hv;have HU:=hid hu;have HS:=hid hs;have HTL:=hid hT;have HLL:=hid hl;obtain ⟨a1,c1,rfl,_,f1⟩:=hv;obtain ⟨a2,c2,rfl,_,f2⟩:=hu;have F1:=hid f1;have F2:=hid f2;obtain ⟨m,hm⟩:∃ m,m=T.length:=⟨_,rfl⟩;obtain ⟨n,hn⟩:∃ n,n=l.length:=⟨_,rfl⟩;rw [←hm] at hT HV ⊢;rw [←hn] at hl HU ⊢;have HM:=hid hm;have HN:=hid hn;clear f1 f2 hm hn hs hT hl;go_enter Tryz.func114,Tryz.ntmps114
 go_wp2_with fail
 refine (xa _ T w HV.out HTL.out HS.out).mono ?_;rintro r w1 ⟨err,rfl,he,hb1⟩;by_cases h0:(dupR T).1=0
 ·obtain rfl:=az.nil (.inl he) h0;have HU1:=hid (HU.out.below hb1);have HB1:=hid hb1;have H0:=hid h0;clear he hb1 h0;go_wp2_with fail
  refine (x8 _ l m w1 HU1.out HLL.out (by rw [HM.out];exact HTL.out)).mono ?_;rintro r w2 ⟨err,rfl,he,hb2⟩;have HB2:=hid (HB1.out.trans (hb2.mono HB1.out.size));by_cases h1:(ordG m 0 l 0).1=0
  ·obtain rfl:=he.nil h1;have HR:Hid (aT T l=(outG T l,0,-1)):=hid (xt H0.out (by rw [←HM.out];exact h1));have HI:=hid (yq m l 0 0 h1);have hm':m≤1000000:=by rw [HM.out];exact HTL.out
   have hn':n≤1000000:=by rw [HN.out];exact HLL.out
   clear he hb2 h1 HB1 HU1;go_wp2
   go_loopw [8,28] (fun x i wr=>∃ k:Nat,k≤m∧i=.int .i64 k∧ak wr w.heap.size x (T.take k)∧Below w.heap.size w wr) (fun _ i _=>m-(intOf i).toNat)
   case atStart=>exact ⟨0,Ds _,rfl,bK _ _,HB2.out⟩
   case round =>
    obtain ⟨k,hk,rfl,hos,hbel⟩:=hrel;have HO:=hid hos;have HB:=hid hbel;obtain ⟨ad,cp,rfl,hcp,g1⟩:=hos.isTexts;have hkl:(T.take k).length=k:=by rw [DK];have:=HM.out;omega
    have HKL:=hid hkl;rw [hkl] at HO hcp;rw [hkl];clear hos hbel hkl;by_cases hlt:k<m
    ·obtain ⟨s, hs⟩ : ∃ s, T[k]? = some s := ⟨T[k]'(by have := HM.out; omega), Di _⟩;obtain ⟨b1,o1,rfl,hb1,p0⟩:=F1.out k s hs;have q0:=(HB.out.cell (p:=⟨b1,o1+k,none⟩) hb1).trans p0;have HSZ:Hid (s.size≤140737488351232):=hid (HS.out s (DB hs));have HTK:Hid (T.take k++[s]=T.take (k+1)):=hid (show _=_ by obtain ⟨hk2,e⟩:=Do.1 hs;rw [←e,EC hk2]);clear p0 hs g1;go_wp2_with fail
     refine (pT s _ (by have:=HSZ.out;omega)).mono ?_;rintro r w3 ⟨rfl,hb3⟩;have HB3:=hid (HB.out.trans (hb3.mono HB.out.size));have HO3:=hid (HO.out.below hb3);clear hb3 HB HO;go_wp2_with (at_builtin;refine fi rfl _ _ rfl w.heap.size _ (T.take k) rfl (HO3.out.alloc _) ⟨w3.heap.size,0,none⟩ 1 rfl s (by simp [Addr.add]) (by have:=HKL.out;omega) (by have:=HB3.out.size;simp;omega) ?_)
     intro g cap w4 ho4 hg4;have HB4:Hid (Below w.heap.size w w4):=(HB3.out.alloc HB3.out.size _).grown hg4 (by have:=HB3.out.size;simp;omega) (fun g hg=>(HO3.out.lt g hg).1);rw [HTK.out] at ho4;have HO4:=hid ho4;clear ho4 hg4;go_wp2;go_roundw
     case rel=>exact ⟨k+1,by omega,by go_num,HO4.out,HB4.out⟩
     case measure=>simp [intOf];omega
    ·obtain rfl:k=m:=by omega
     have hTk:T.take k=T:=DL (by rw [HM.out];exact Db _);rw [hTk] at HO g1;obtain ⟨wp,hwp⟩:∃ wp,wp=wr:=⟨_,rfl⟩;rw [←hwp] at HO HB g1 ⊢;have G1:=hid g1;clear g1 hTk hwp;go_wp2
     go_loopw [9,40] (fun y i wo=>∃ q:Nat,q≤n∧i=.int .i64 q∧ak wo wp.heap.size y (outG T (l.take q))∧Below wp.heap.size wp wo) (fun _ i _=>n-(intOf i).toNat)
     case atStart=>exact ⟨0,Ds _,rfl,bK _ _,Below.refl _ _⟩
     case round =>
      obtain ⟨q,hq,rfl,hos,hbel⟩:=hrel;have HO2:=hid hos;have HBO:=hid hbel;clear hos hbel;by_cases hlt2:q<n
      ·obtain ⟨z, hz⟩ : ∃ z, l[q]? = some z := ⟨l[q]'(by have := HN.out; omega), Di _⟩;obtain ⟨b2,o2,rfl,hb2,p2⟩:=F2.out q z hz;obtain ⟨z0,z1⟩:=HI.out z (DB hz);obtain ⟨j,rfl⟩:∃ j:Nat,z=j:=⟨z.toNat,by omega⟩;have hjm:j<k:=by omega
       obtain ⟨s, hs⟩ : ∃ s, T[j]? = some s := ⟨T[j]'(by have := HM.out; omega), Di _⟩;obtain ⟨b3,o3,rfl,hb3,p3⟩:=G1.out j s hs;have HBW:=hid (HB.out.trans (HBO.out.mono HB.out.size));have q2:=(HBW.out.cell (p:=⟨b2,o2+q,none⟩) hb2).trans p2;have q3:=(HBO.out.cell (p:=⟨b3,o3+j,none⟩) hb3).trans p3;have HX:=hid (qC hz hs);have hz2:(outG T (l.take q)).length=q:=by unfold outG;rw [E9,DK];have:=HN.out;omega
       have HZ2:=hid hz2;clear p2 p3 hz hs z0 z1 hz2;go_wp2_with (at_builtin;refine fi rfl _ _ rfl wp.heap.size _ (outG T (l.take q)) rfl (HO2.out.alloc _) ⟨wr.heap.size,0,none⟩ 1 rfl s (by simp [Addr.add]) (by have:=HZ2.out;omega) (by have:=HBO.out.size;simp;omega) ?_)
       intro g cap w4 ho4 hg4;have HB4:Hid (Below wp.heap.size wp w4):=(HBO.out.alloc HBO.out.size _).grown hg4 (by have:=HBO.out.size;simp;omega) (fun g hg=>(HO2.out.lt g hg).1);rw [←HX.out] at ho4;have HO4:=hid ho4;clear ho4 hg4;go_wp2;go_roundw
       case rel=>exact ⟨q+1,by omega,by go_num,HO4.out,HB4.out⟩
       case measure=>simp [intOf];omega
      ·obtain rfl:q=n:=by omega
       have hlk:l.take q=l:=DL (by rw [HN.out];exact Db _);have HO3:=hid (show ak wr wp.heap.size _ (outG T l) from hlk ▸ HO2.out);clear hlk;go_wp2;go_ret2;rw [HR.out];exact ⟨_,_,rfl,HO3.out.mono HB.out.size,.inl (.inl ⟨rfl,rfl⟩),HB.out.trans (HBO.out.mono HB.out.size)⟩
  ·obtain ⟨t,x,rfl⟩:=he.iface h1;have HR:Hid (aT T l=([],ordG m 0 l 0)):=hid (by rw [HM.out];exact xv H0.out (by rw [←HM.out];exact h1));have HE:=hid he;clear he hb2;go_wp2;go_ret2;rw [HR.out];exact ⟨_,_,rfl,bK _ _,HE.out,HB2.out⟩
 ·have he2:az w1 err (dupR T):=.inl he;obtain ⟨t,x,rfl⟩:=he2.iface h0;have HR:Hid (aT T l=([],dupR T)):=hid (xr h0);have HE:=hid he2;have HB1:=hid hb1;clear he he2 hb1;go_wp2;go_ret2;rw [HR.out];exact ⟨_,_,rfl,bK _ _,HE.out,HB1.out⟩
end
