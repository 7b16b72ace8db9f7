import Derived.Test.YtgfinhehgfbdgaaGreatDoorProg
import Derived.KernelRfl
import Derived.Deep.Slices
import Derived.Deep.Fields
import Derived.ChangeSame
import Derived.SizedLaws
import Derived.Below
import Derived.ProofKit
import Derived.OpenShut
import Derived.Test.YtgfinhehgfbdgaaGreatDoorRa00
import Derived.Test.YtgfinhehgfbdgaaGreatDoorRa02
import Derived.Test.YtgfinhehgfbdgaaGreatDoorRa04
import Derived.Test.YtgfinhehgfbdgaaGreatDoorRa08
import Derived.Lib.Hide
import Derived.Outline
namespace Go.Proofs.YtgfinhehgfbdgaaGreatDoor
open Go.ChangeShapes Go.WideShapes Go.ChangeAt Go.RowKit
theorem pair_fields {H:Type} {enc:TypeId×Value→H} {P:Program} {W:World} {spare:Nat→Bool} {held:Bool} {n:Nat} {t:TypeId} {cs:List Value} {x:DataW H×List MemPlace} {p q:Field}
   (ht:P.underlying t=some (.struct #[p,q])) (h1:Go.Deep.oneCellFields P #[p,q]=true) (h3:P.cellsOf t=2)
   (h:DataW.trod enc P W 0 spare held n t cs=some x) :
   ∃ (a b:Value) (u v:DataW H×List MemPlace) (m:Nat),cs=[a,b]∧x.1=.agg [u.1,v.1] ∧
     DataW.trod enc P W 0 spare held m p.type [a]=some u∧DataW.trod enc P W 0 spare held m q.type [b]=some v:=by
 obtain ⟨xs,m,_,hx,hl,hxl,hf⟩:=DataW.trod_struct ht h
 rw [h3] at hl
 have hxl':xs.length=2:=hxl
 match cs,hl with
 | [a,b],_ =>
   match xs,hxl' with
   | [u,v],_ =>
     have one:=Go.Deep.hone_of h1
     have g0:=hf 0 p rfl
     have g1:=hf 1 q rfl
     rw [(one 0 p rfl).1,(one 0 p rfl).2] at g0
     rw [(one 1 q rfl).1,(one 1 q rfl).2] at g1
     exact ⟨a,b,u,v,m,rfl,by rw [hx];rfl,g0,g1⟩
def wrD {H:Type} (x:Wr):DataW H:=.agg [.agg [.lit (.int .i64 x.time),.lit (.int .i64 x.rep)],.lit (.int .i64 x.kind),.lit (.string x.key.data.toList),.lit (.string x.value.data.toList),.lit (.int .i64 x.n)]
set_option maxRecDepth 100000 in
theorem wr_elem {H:Type} {enc:TypeId×Value→H} {W:World} {spare:Nat→Bool} {held:Bool} {n:Nat} {cs:List Value} {x:DataW H×List MemPlace}
   (h:DataW.trod enc Tryz.prog W 0 spare held n 61 cs=some x):∃ t:Wr,cs=wrC t∧x.1=wrD t∧-9223372036854775808≤t.n∧t.n≤9223372036854775807:=by
 obtain ⟨xs,m,_,hx,hl,hxl,hf⟩:=DataW.trod_struct Tryz.underlying61 h
 have c6:Tryz.prog.cellsOf 61=6:=by kernel_rfl
 have c2:Tryz.prog.cellsOf 59=2:=by kernel_rfl
 have cI:Tryz.prog.cellsOf 3=1:=by kernel_rfl
 have cS:Tryz.prog.cellsOf 9=1:=by kernel_rfl
 rw [c6] at hl
 have hxl':xs.length=5:=hxl
 match cs,hl with
 | [a,b,c,d,e,f],_ =>
   match xs,hxl' with
   | [u0,u1,u2,u3,u4],_ =>
     have g0:=hf 0 _ rfl
     have g1:=hf 1 _ rfl
     have g2:=hf 2 _ rfl
     have g3:=hf 3 _ rfl
     have g4:=hf 4 _ rfl
     simp [c2,cI,cS] at g0 g1 g2 g3 g4
     obtain ⟨a',b',y0,y1,m',hab,hy,t0,t1⟩:=pair_fields Tryz.underlying59 (by kernel_rfl) (by kernel_rfl) g0
     simp at hab
     obtain ⟨rfl,rfl⟩:=hab
     obtain ⟨T,e0,f0,_⟩:=DataW.trod_int Tryz.underlying3 t0
     obtain ⟨R,e1,f1,_⟩:=DataW.trod_int Tryz.underlying3 t1
     obtain ⟨K,e2,f2,_⟩:=DataW.trod_int Tryz.underlying3 g1
     obtain ⟨key,e3,f3,_⟩:=DataW.trod_string Tryz.underlying9 g2
     obtain ⟨val,e4,f4,_⟩:=DataW.trod_string Tryz.underlying9 g3
     obtain ⟨N,e5,f5,w5⟩:=DataW.trod_int Tryz.underlying3 g4
     obtain rfl:=List.head_eq_of_cons_eq e0
     obtain rfl:=List.head_eq_of_cons_eq e1
     obtain rfl:=List.head_eq_of_cons_eq e2
     obtain rfl:=List.head_eq_of_cons_eq e3
     obtain rfl:=List.head_eq_of_cons_eq e4
     obtain rfl:=List.head_eq_of_cons_eq e5
     have b5:=bounds_i64 w5
     refine ⟨⟨T,R,K,key,val,N⟩,rfl,?_,b5.1,b5.2⟩
     rw [hx]
     simp only [List.map_cons,List.map_nil,hy,f0,f1,f2,f3,f4,f5]
     rfl
end Go.Proofs.YtgfinhehgfbdgaaGreatDoor
namespace Go.Proofs.YtgfinhehgfbdgaaGreatDoor
open Go.ChangeShapes Go.WideShapes Go.ChangeAt Go.RowKit
theorem laidOutE:laidOutB Tryz.prog=true:=by kernel_rfl
instance : Inhabited Ent:=⟨⟨0,0⟩⟩
theorem two_fields {H:Type} {enc:TypeId×Value→H} {P:Program} {W:World} {spare:Nat→Bool} {held:Bool} {n:Nat} {t:TypeId} {cs:List Value} {x:DataW H×List MemPlace} {p q:Field}
   (ht:P.underlying t=some (.struct #[p,q])) (h1:Go.Deep.oneCellFields P #[p,q]=true) (h3:P.cellsOf t=2)
   (h:DataW.trod enc P W 0 spare held n t cs=some x) :
   ∃ (a b:Value) (u v:DataW H×List MemPlace) (m:Nat),cs=[a,b]∧x.1=.agg [u.1,v.1] ∧
     DataW.trod enc P W 0 spare held m p.type [a]=some u∧DataW.trod enc P W 0 spare held m q.type [b]=some v:=by
 obtain ⟨xs,m,_,hx,hl,hxl,hf⟩:=DataW.trod_struct ht h
 rw [h3] at hl
 have hxl':xs.length=2:=hxl
 match cs,hl with
 | [a,b],_ =>
   match xs,hxl' with
   | [u,v],_ =>
     have one:=Go.Deep.hone_of h1
     have g0:=hf 0 p rfl
     have g1:=hf 1 q rfl
     rw [(one 0 p rfl).1,(one 0 p rfl).2] at g0
     rw [(one 1 q rfl).1,(one 1 q rfl).2] at g1
     exact ⟨a,b,u,v,m,rfl,by rw [hx];rfl,g0,g1⟩
theorem ent_elem {H:Type} {enc:TypeId×Value→H} {W:World} {spare:Nat→Bool} {held:Bool} {n:Nat} {cs:List Value} {x:DataW H×List MemPlace}
   (h:DataW.trod enc Tryz.prog W 0 spare held n 80 cs=some x):∃ t:Ent,cs=entC t:=by
 obtain ⟨a,b,u,v,m,rfl,hx,g0,g1⟩:=two_fields Tryz.underlying80 (by kernel_rfl) (by kernel_rfl) h
 obtain ⟨k,e0,f0,_⟩:=DataW.trod_int Tryz.underlying3 g0
 obtain ⟨z,e1,f1,_⟩:=DataW.trod_int Tryz.underlying3 g1
 have e0':a=.int .i64 k:=List.head_eq_of_cons_eq e0
 have e1':b=.int .i64 z:=List.head_eq_of_cons_eq e1
 exact ⟨⟨k,z⟩,by rw [e0',e1'];rfl⟩
theorem entsArg {H:Type} {enc:TypeId×Value→H} {W:World} {spare:Nat→Bool} {held:Bool} {a0:Option Addr} {len0 cap0 fuel:Nat} {d:DataW H} {p:List MemPlace}
   (hf:DataW.trod enc Tryz.prog W 0 spare held fuel 22 [.slice a0 len0 cap0]=some (d,p)) :
   ∃ l:List Ent,IsEnts W (.slice a0 len0 cap0) l∧l.length=len0∧len0≤cap0∧cap0≤maxLen:=by
 rcases Go.Deep.open_slice Tryz.underlying22 hf with ⟨hcs,_⟩ | ⟨a,ln,cp,m,n,D,Pl,hcs,_,hl,hm,hmm,hx,hi⟩
 · simp only [List.cons.injEq,Value.slice.injEq,and_true] at hcs
   obtain ⟨rfl,rfl,rfl⟩:=hcs
   exact ⟨[],.inl ⟨_,_,rfl,rfl⟩,rfl,Nat.le_refl _,by unfold maxLen;omega⟩
 · simp only [List.cons.injEq,Value.slice.injEq,and_true] at hcs
   obtain ⟨rfl,rfl,rfl⟩:=hcs
   have h3:Tryz.prog.cellsOf 80=2:=by kernel_rfl
   rw [h3] at hi
   have hle:len0≤m:=by rw [hmm];split <;> omega
   obtain ⟨f,hfc⟩:=Go.Deep.choose_lt (n:=len0) (p:=fun i (t:Ent)=>W.cells? 0 (a.add (i * 2)) 2=some (entC t)) (fun i hlt=>by
     obtain ⟨cs',hc,ht⟩:=hi i (by omega)
     obtain ⟨t,h1⟩:=ent_elem ht
     exact ⟨t,by rw [hc,h1]⟩)
   have hll:((List.range len0).map f).length=len0:=by simp
   refine ⟨(List.range len0).map f,?_,hll,hl,hm⟩
   by_cases hz:len0=0
   · subst hz;exact .inl ⟨_,_,rfl,rfl⟩
   · obtain ⟨b,off,spot⟩:=a
     have hcell:∀ i,i < len0→∀ r,r < 2→W.cell? ((⟨b,off,spot⟩:Addr).add (i * 2 + r))=(entC (f i))[r]? := fun i hlt r hr=>by
       obtain ⟨_,_,hat⟩:=World.cells?_some (hfc i hlt)
       rw [←Go.Deep.add_add];exact hat r hr
     have h0:=hcell 0 (by omega) 0 (by omega)
     have hspot:spot=none:=by simpa [Addr.add] using World.cell?_spot (h0.trans rfl)
     subst hspot
     refine .inr ⟨b,off,cap0,by rw [hll],⟨by rw [hll];omega,by rw [hll];omega⟩,block_lt_of_cell (h0.trans rfl),fun j u hj=>?_⟩
     have hjl:j < len0 * 2:=by rw [←hll,←entsC_len];exact (List.getElem?_eq_some_iff.1 hj).1
     have hc:=hcell (j / 2) (by omega) (j % 2) (Nat.mod_lt _ (by decide))
     have hti:((List.range len0).map f)[j / 2]? = some (f (j / 2)):=by
       rw [List.getElem?_map,List.getElem?_range (by omega)];rfl
     have h5:=entsC_at _ _ (j % 2) _ hti (Nat.mod_lt _ (by decide))
     rw [show j / 2 * 2 + j % 2=j by omega] at hc h5
     rw [←h5,hj] at hc
     rw [←hc]
     refine congrArg W.cell? ?_
     unfold Addr.add
     split
     · rename_i e;rw [e];rfl
     · rfl
end Go.Proofs.YtgfinhehgfbdgaaGreatDoor
namespace Go.Proofs.YtgfinhehgfbdgaaGreatDoor
open Go.ChangeShapes Go.WideShapes Go.ChangeAt Go.RowKit
theorem three_fieldsB {H:Type} {enc:TypeId×Value→H} {P:Program} {W:World} {spare:Nat→Bool} {held:Bool} {n:Nat} {t:TypeId} {cs:List Value} {x:DataW H×List MemPlace} {p q r:Field}
   (ht:P.underlying t=some (.struct #[p,q,r])) (h1:Go.Deep.oneCellFields P #[p,q,r]=true) (h3:P.cellsOf t=3)
   (h:DataW.trod enc P W 0 spare held n t cs=some x) :
   ∃ (a b c:Value) (u v w:DataW H×List MemPlace) (m:Nat),cs=[a,b,c]∧x.1=.agg [u.1,v.1,w.1] ∧
     DataW.trod enc P W 0 spare held m p.type [a]=some u∧DataW.trod enc P W 0 spare held m q.type [b]=some v∧DataW.trod enc P W 0 spare held m r.type [c]=some w:=by
 obtain ⟨xs,m,_,hx,hl,hxl,hf⟩:=DataW.trod_struct ht h
 rw [h3] at hl
 have hxl':xs.length=3:=hxl
 match cs,hl with
 | [a,b,c],_ =>
   match xs,hxl' with
   | [u,v,w],_ =>
     have one:=Go.Deep.hone_of h1
     have g0:=hf 0 p rfl
     have g1:=hf 1 q rfl
     have g2:=hf 2 r rfl
     rw [(one 0 p rfl).1,(one 0 p rfl).2] at g0
     rw [(one 1 q rfl).1,(one 1 q rfl).2] at g1
     rw [(one 2 r rfl).1,(one 2 r rfl).2] at g2
     exact ⟨a,b,c,u,v,w,m,rfl,by rw [hx];rfl,g0,g1,g2⟩
theorem slice_of {H:Type} {enc:TypeId×Value→H} {P:Program} {W:World} {spare:Nat→Bool} {held:Bool} {n:Nat} {t e:TypeId} {v:Value} {x:DataW H×List MemPlace}
   (ht:P.underlying t=some (.slice e)) (h:DataW.trod enc P W 0 spare held n t [v]=some x):∃ a n c,v=.slice a n c:=by
 rcases Go.Deep.open_slice ht h with ⟨hcs,_⟩ | ⟨a,ln,cp,m,n,D,Pl,hcs,_⟩
 · exact ⟨_,_,_,List.head_eq_of_cons_eq hcs⟩
 · exact ⟨_,_,_,List.head_eq_of_cons_eq hcs⟩
theorem wr_weight {H:Type} (ds:List (DataW H)) (t:Wr) (h:wrD t∈ds):t.key.size∈DataW.weightsAll Tryz.prog 61 ds∧t.value.size∈DataW.weightsAll Tryz.prog 61 ds:=by
 induction ds with
 | nil=>cases h
 | cons d r ih =>
   rw [DataW.weightsAll]
   rcases List.mem_cons.1 h with h | h
   · have g : t.key.size ∈ DataW.weights Tryz.prog 61 (wrD t : DataW H) ∧ t.value.size ∈ DataW.weights Tryz.prog 61 (wrD t : DataW H) := by
       constructor
       · unfold wrD
         rw [DataW.weights,Tryz.underlying61]
         simp [DataW.weightsEach,DataW.weights,Tryz.underlying59]
       · unfold wrD
         rw [DataW.weights,Tryz.underlying61]
         simp [DataW.weightsEach,DataW.weights,Tryz.underlying59]
     rw [←h]
     exact ⟨List.mem_append_left _ g.1,List.mem_append_left _ g.2⟩
   · exact ⟨List.mem_append_right _ (ih h).1,List.mem_append_right _ (ih h).2⟩
theorem wrsArg {H:Type} {enc:TypeId×Value→H} {W:World} {spare:Nat→Bool} {held:Bool} {a0:Option Addr} {len0 cap0 fuel:Nat} {d:DataW H} {p:List MemPlace}
   (hf:DataW.trod enc Tryz.prog W 0 spare held fuel 23 [.slice a0 len0 cap0]=some (d,p))
   (hw:∀ x∈DataW.weights Tryz.prog 23 d,x≤reachBytes) :
   ∃ l:List Wr,IsWrs W (.slice a0 len0 cap0) l∧l.length=len0∧len0≤cap0∧cap0≤maxLen∧∀ t∈l,WrOk t:=by
 rcases Go.Deep.open_slice Tryz.underlying23 hf with ⟨hcs,_⟩ | ⟨a,ln,cp,m,n,D,Pl,hcs,_,hl,hm,hmm,hx,hi⟩
 · simp only [List.cons.injEq,Value.slice.injEq,and_true] at hcs
   obtain ⟨rfl,rfl,rfl⟩:=hcs
   exact ⟨[],.inl ⟨_,_,rfl,rfl⟩,rfl,Nat.le_refl _,by unfold maxLen;omega,fun t h=>by cases h⟩
 · simp only [List.cons.injEq,Value.slice.injEq,and_true] at hcs
   obtain ⟨rfl,rfl,rfl⟩:=hcs
   have h3:Tryz.prog.cellsOf 61=6:=by kernel_rfl
   rw [h3] at hi
   have hle:len0≤m:=by rw [hmm];split <;> omega
   obtain ⟨f,hfc⟩:=Go.Deep.choose_lt (n:=len0) (p:=fun i (t:Wr)=>W.cells? 0 (a.add (i * 6)) 6=some (wrC t)∧D i=wrD t∧-9223372036854775808≤t.n∧t.n≤9223372036854775807) (fun i hlt=>by
     obtain ⟨cs',hc,ht⟩:=hi i (by omega)
     obtain ⟨t,h1,h2,h4⟩:=wr_elem ht
     exact ⟨t,by rw [hc,h1],h2,h4⟩)
   have hll:((List.range len0).map f).length=len0:=by simp
   refine ⟨(List.range len0).map f,?_,hll,hl,hm,fun t ht=>?_⟩
   · by_cases hz:len0=0
     · subst hz;exact .inl ⟨_,_,rfl,rfl⟩
     · obtain ⟨b,off,spot⟩:=a
       have hcell:∀ i,i < len0→∀ r,r < 6→W.cell? ((⟨b,off,spot⟩:Addr).add (i * 6 + r))=(wrC (f i))[r]? := fun i hlt r hr=>by
         obtain ⟨_,_,hat⟩:=World.cells?_some (hfc i hlt).1
         rw [←Go.Deep.add_add];exact hat r hr
       have h0:=hcell 0 (by omega) 0 (by omega)
       have hspot:spot=none:=by simpa [Addr.add] using World.cell?_spot (h0.trans rfl)
       subst hspot
       refine .inr ⟨b,off,cap0,by rw [hll],by rw [hll];omega,block_lt_of_cell (h0.trans rfl),fun j u hj=>?_⟩
       have hjl:j < len0 * 6:=by rw [←hll,←wrsC_len];exact (List.getElem?_eq_some_iff.1 hj).1
       have hc:=hcell (j / 6) (by omega) (j % 6) (Nat.mod_lt _ (by decide))
       have hti:((List.range len0).map f)[j / 6]? = some (f (j / 6)):=by
         rw [List.getElem?_map,List.getElem?_range (by omega)];rfl
       have h5:=wrsC_at _ _ (j % 6) _ hti (Nat.mod_lt _ (by decide))
       rw [show j / 6 * 6 + j % 6=j by omega] at hc h5
       rw [←h5,hj] at hc
       rw [←hc]
       refine congrArg W.cell? ?_
       unfold Addr.add
       split
       · rename_i e;rw [e];rfl
       · rfl
   · obtain ⟨i,hir,hit⟩:=List.mem_map.1 ht
     have hil:=List.mem_range.1 hir
     have hd:d=.slice ((List.range len0).map D) ((List.range (m - len0)).map fun j=>D (len0 + j)):=(Prod.mk.inj hx).1
     have hmem:wrD t∈(List.range len0).map D:=List.mem_map.2 ⟨i,hir,by rw [(hfc i hil).2.1,hit]⟩
     have hwt:=wr_weight _ t hmem
     have hin:∀ y∈DataW.weightsAll Tryz.prog 61 ((List.range len0).map D),y≤reachBytes:=fun y hy=>hw y (by
       rw [hd,DataW.weights,Tryz.underlying23]
       exact List.mem_cons_of_mem _ (List.mem_append_left _ hy))
     have g1:=hin _ hwt.1
     have g2:=hin _ hwt.2
     unfold reachBytes at g1 g2
     have hn:=(hfc i hil).2.2
     rw [hit] at hn
     exact ⟨hn.1,hn.2,by omega,by omega⟩
set_option maxRecDepth 100000 in
theorem batArg {H:Type} {enc:TypeId×Value→H} {W:World} {spare:Nat→Bool} {held:Bool} {v:Value} {d:DataW H} {p:List MemPlace} {base:Nat}
   (hv:Value.okWide Tryz.prog W .any base 25 v) (h:DataW.Trod enc Tryz.prog W 0 spare held 25 v d p)
   (hw:∀ x∈DataW.weights Tryz.prog 25 d,x≤reachBytes):∃ vf vh vw f h l,v=.agg #[vf,vh,vw]∧BatIs W vf vh vw f h l:=by
 obtain ⟨cs,rfl,hsz⟩:=okWide_struct Tryz.underlying25 hv
 obtain ⟨fuel,hf⟩:=h
 obtain ⟨vf,vh,vw,⟨df,pf⟩,⟨dh,ph⟩,⟨dw,pw⟩,m,hcs,hd,g0,g1,g2⟩:=three_fieldsB Tryz.underlying25 (by kernel_rfl) (by kernel_rfl) hf
 obtain ⟨af,nf,cf,rfl⟩:=slice_of Tryz.underlying22 g0
 obtain ⟨ah,nh,ch,rfl⟩:=slice_of Tryz.underlying22 g1
 obtain ⟨aw,nw,cw,rfl⟩:=slice_of Tryz.underlying23 g2
 obtain ⟨f,if_,lf,cf1,mf⟩:=entsArg g0
 obtain ⟨h,ih_,lh,ch1,mh⟩:=entsArg g1
 obtain rfl:d=.agg [df,dh,dw]:=hd
 obtain ⟨l,iw,lw,cw1,mw,ow⟩:=wrsArg g2 (fun x hx=>hw x (by
   rw [DataW.weights,Tryz.underlying25]
   show x∈DataW.weightsEach _ (_ :: _ :: _ :: _) (_ :: _ :: _ :: _)
   rw [DataW.weightsEach,DataW.weightsEach,DataW.weightsEach]
   exact List.mem_append_right _ (List.mem_append_right _ (List.mem_append_left _ hx))))
 unfold maxLen at mf mh mw
 refine ⟨_,_,_,f,h,l,?_,if_,ih_,iw,by omega,by omega,by omega,ow⟩
 have:cs.toList=[.slice af nf cf,.slice ah nh ch,.slice aw nw cw]:=by simpa [Value.cells] using hcs
 rw [←Array.toArray_toList (xs:=cs),this]
end Go.Proofs.YtgfinhehgfbdgaaGreatDoor
namespace Go.Proofs.YtgfinhehgfbdgaaGreatDoor
open Go.RowKit
def bigS:Int→List Wr→Int
 | x,[]=>x
 | x,t :: r=>bigS (IntKind.i64.wrap (x + IntKind.i64.wrap ((IntKind.i64.wrap ((t.key.size:Int) + (t.value.size:Int))).tdiv 8))) r
def bigV (lim:Int) (f h:List Ent) (l:List Wr):Bool:=decide (lim < bigS (IntKind.i64.wrap (IntKind.i64.wrap ((f.length:Int) + (h.length:Int)) + (l.length:Int))) l)
theorem bigS_drop {l:List Wr} {k:Nat} {t:Wr} (x:Int) (ht:l[k]? = some t):bigS x (l.drop k)=bigS (IntKind.i64.wrap (x + IntKind.i64.wrap ((IntKind.i64.wrap ((t.key.size:Int) + (t.value.size:Int))).tdiv 8))) (l.drop (k + 1)):=by
 obtain ⟨hk,h⟩:=List.getElem?_eq_some_iff.1 ht
 rw [List.drop_eq_getElem_cons hk,h];rfl
end Go.Proofs.YtgfinhehgfbdgaaGreatDoor
namespace Go.Proofs.YtgfinhehgfbdgaaGreatDoor
open Go.RowKit
set_option maxRecDepth 100000 in
set_option maxHeartbeats 4000000 in
theorem bigL_any (vf vh vw:Value) (f h:List Ent) (l:List Wr) (w:World) (hx:BatIs w vf vh vw f h l) :
   Calls Tryz.prog 10 #[.agg #[vf,vh,vw]] w fun e w'=>e=.returned (.bool (bigV 300 f h l))∧Below w.heap.size w w':=by
 obtain ⟨hf,hh,hv,hlf,hlh,hlw,hok⟩:=hx
 obtain ⟨af,cf,rfl,_⟩:=hf.form
 obtain ⟨ah,ch,rfl,_⟩:=hh.form
 obtain ⟨aw,cw,rfl,fw⟩:=hv.form
 have FW:=Lib.hid fw
 obtain ⟨nf,hnf⟩:∃ n,n=f.length:=⟨_,rfl⟩
 obtain ⟨nh,hnh⟩:∃ n,n=h.length:=⟨_,rfl⟩
 obtain ⟨n,hn⟩:∃ n,n=l.length:=⟨_,rfl⟩
 rw [←hnf,←hnh,←hn]
 rw [←hn] at hlw
 have HN:=Lib.hid hn
 have hbv:bigV 300 f h l=decide (300 < bigS (IntKind.i64.wrap (IntKind.i64.wrap ((nf:Int) + (nh:Int)) + (n:Int))) l):=by rw [hnf,hnh,hn];rfl
 obtain ⟨s1,hs1⟩:∃ s,IntKind.i64.wrap ((nf:Int) + (nh:Int))=s:=⟨_,rfl⟩
 obtain ⟨s2,hs2⟩:∃ s,IntKind.i64.wrap (s1 + (n:Int))=s:=⟨_,rfl⟩
 rw [hs1,hs2] at hbv
 have HBV:=Lib.hid hbv
 clear hf hh hv hlf hlh hnf hnh hn fw hok hbv
 go_enter Tryz.func10,Tryz.ntmps10
 go_wp2
 clear hs1 hs2
 go_loopw [3,20] (fun s i wr=>∃ (x:Int) (k:Nat),s=.int .i64 x∧k≤n∧i=.int .i64 k∧bigS s2 l=bigS x (l.drop k)∧Below w.heap.size w wr) (fun _ i _=>n - (intOf i).toNat)
 case atStart=>exact ⟨_,0,rfl,by omega,rfl,rfl,(Below.refl _ _).alloc (Nat.le_refl _) _⟩
 case round =>
   obtain ⟨x,k,rfl,hk,rfl,heq,hbel⟩:=hrel
   have HEQ:=Lib.hid heq
   clear heq
   have HB:=Lib.hid hbel
   have hzr:=hbel.size
   clear hbel
   by_cases hlt:k < n
   · obtain ⟨t, ht⟩ : ∃ t, l[k]? = some t := ⟨l[k]'(by have := HN.out; omega), List.getElem?_eq_getElem _⟩
     obtain ⟨b1,o1,rfl,hb1,p0,p1,p2,p3,p4,p5⟩:=FW.out k t ht
     have q0:=(HB.out.cell (p:=⟨b1,o1 + k * 6,none⟩) hb1).trans p0
     have q1:=(HB.out.cell (p:=⟨b1,o1 + k * 6 + 1,none⟩) hb1).trans p1
     have q2:=(HB.out.cell (p:=⟨b1,o1 + k * 6 + 2,none⟩) hb1).trans p2
     have q3:=(HB.out.cell (p:=⟨b1,o1 + k * 6 + 3,none⟩) hb1).trans p3
     have q4:=(HB.out.cell (p:=⟨b1,o1 + k * 6 + 4,none⟩) hb1).trans p4
     have q5:=(HB.out.cell (p:=⟨b1,o1 + k * 6 + 5,none⟩) hb1).trans p5
     have hd:=bigS_drop x ht
     obtain ⟨T,R,K,key,val,N⟩:=t
     simp only at q0 q1 q2 q3 q4 q5 hd
     obtain ⟨u,hu⟩:∃ u,IntKind.i64.wrap ((key.size:Int) + (val.size:Int))=u:=⟨_,rfl⟩
     obtain ⟨y,hy⟩:∃ y,IntKind.i64.wrap (u.tdiv 8)=y:=⟨_,rfl⟩
     obtain ⟨z,hz⟩:∃ z,IntKind.i64.wrap (x + y)=z:=⟨_,rfl⟩
     rw [hu,hy,hz] at hd
     have HD:Hid (bigS s2 l=bigS z (l.drop (k + 1))):=Lib.hid (HEQ.out.trans hd)
     clear hd
     clear p0 p1 p2 p3 p4 p5 ht
     go_wp2
     go_roundw
     case rel=>exact ⟨_,k + 1,rfl,by omega,by go_num,HD.out,HB.out.alloc hzr _⟩
     case measure=>simp [intOf];omega
   · have HD:Hid (bigV 300 f h l=decide (300 < x)):=Lib.hid (by rw [HBV.out,HEQ.out,List.drop_eq_nil_of_le (by have:=HN.out;omega)];rfl)
     go_wp2
     go_ret
     exact ⟨by rw [HD.out];rfl,HB.out⟩
theorem bigL_as (vf vh vw:Value) (f h:List Ent) (l:List Wr) (c:Bool) (w:World) (hx:BatIs w vf vh vw f h l) (hc:bigV 300 f h l=c) :
   Calls Tryz.prog 10 #[.agg #[vf,vh,vw]] w fun e w'=>e=.returned (.bool c)∧Below w.heap.size w w':=by
 subst hc;exact bigL_any vf vh vw f h l w hx
end Go.Proofs.YtgfinhehgfbdgaaGreatDoor
