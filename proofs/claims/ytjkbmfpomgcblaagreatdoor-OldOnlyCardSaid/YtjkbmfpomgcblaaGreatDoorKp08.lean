import Derived.Test.YtjkbmfpomgcblaaGreatDoorKp07
namespace Go.Proofs.YtjkbmfpomgcblaaGreatDoor
open Go.ChangeShapes Go.WideShapes Go.ChangeAt Go.RowKit
theorem three_fieldsB {H:Type} {enc:TypeId×Value→H} {P:Program} {W:World} {spare:Nat→Bool} {held:Bool} {n:Nat} {t:TypeId} {cs:List Value} {x:DataW H×List MemPlace} {p q r:Field}
   (ht:P.underlying t=some (.struct #[p,q,r])) (h1:Go.Deep.oneCellFields P #[p,q,r]=true) (h3:P.cellsOf t=3)
   (h:DataW.trod enc P W 0 spare held n t cs=some x) :
   ∃ (a b c:Value) (u v w:DataW H×List MemPlace) (m:Nat),cs=[a,b,c]∧x.1=.agg [u.1,v.1,w.1] ∧
     DataW.trod enc P W 0 spare held m p.type [a]=some u∧DataW.trod enc P W 0 spare held m q.type [b]=some v∧DataW.trod enc P W 0 spare held m r.type [c]=some w:=by
 obtain ⟨xs,m,_,hx,hl,hxl,hf⟩:=DataW.trod_struct ht h
 rw [h3] at hl
 have hxl':xs.length=3:=hxl
 match cs,hl with
 | [a,b,c],_ =>
   match xs,hxl' with
   | [u,v,w],_ =>
     have one:=Go.Deep.hone_of h1
     have g0:=hf 0 p rfl
     have g1:=hf 1 q rfl
     have g2:=hf 2 r rfl
     rw [(one 0 p rfl).1,(one 0 p rfl).2] at g0
     rw [(one 1 q rfl).1,(one 1 q rfl).2] at g1
     rw [(one 2 r rfl).1,(one 2 r rfl).2] at g2
     exact ⟨a,b,c,u,v,w,m,rfl,by rw [hx];rfl,g0,g1,g2⟩
theorem slice_of {H:Type} {enc:TypeId×Value→H} {P:Program} {W:World} {spare:Nat→Bool} {held:Bool} {n:Nat} {t e:TypeId} {v:Value} {x:DataW H×List MemPlace}
   (ht:P.underlying t=some (.slice e)) (h:DataW.trod enc P W 0 spare held n t [v]=some x):∃ a n c,v=.slice a n c:=by
 rcases Go.Deep.open_slice ht h with ⟨hcs,_⟩ | ⟨a,ln,cp,m,n,D,Pl,hcs,_⟩
 · exact ⟨_,_,_,List.head_eq_of_cons_eq hcs⟩
 · exact ⟨_,_,_,List.head_eq_of_cons_eq hcs⟩
theorem wr_weight {H:Type} (ds:List (DataW H)) (t:Wr) (h:wrD t∈ds):t.key.size∈DataW.weightsAll Tryz.prog 59 ds∧t.value.size∈DataW.weightsAll Tryz.prog 59 ds:=by
 induction ds with
 | nil=>cases h
 | cons d r ih =>
   rw [DataW.weightsAll]
   rcases List.mem_cons.1 h with h | h
   · have g : t.key.size ∈ DataW.weights Tryz.prog 59 (wrD t : DataW H) ∧ t.value.size ∈ DataW.weights Tryz.prog 59 (wrD t : DataW H) := by
       constructor
       · unfold wrD
         rw [DataW.weights,Tryz.underlying59]
         simp [DataW.weightsEach,DataW.weights,Tryz.underlying57]
       · unfold wrD
         rw [DataW.weights,Tryz.underlying59]
         simp [DataW.weightsEach,DataW.weights,Tryz.underlying57]
     rw [←h]
     exact ⟨List.mem_append_left _ g.1,List.mem_append_left _ g.2⟩
   · exact ⟨List.mem_append_right _ (ih h).1,List.mem_append_right _ (ih h).2⟩
theorem wrsArg {H:Type} {enc:TypeId×Value→H} {W:World} {spare:Nat→Bool} {held:Bool} {a0:Option Addr} {len0 cap0 fuel:Nat} {d:DataW H} {p:List MemPlace}
   (hf:DataW.trod enc Tryz.prog W 0 spare held fuel 23 [.slice a0 len0 cap0]=some (d,p))
   (hw:∀ x∈DataW.weights Tryz.prog 23 d,x≤reachBytes) :
   ∃ l:List Wr,IsWrs W (.slice a0 len0 cap0) l∧l.length=len0∧len0≤cap0∧cap0≤maxLen∧∀ t∈l,WrOk t:=by
 rcases Go.Deep.open_slice Tryz.underlying23 hf with ⟨hcs,_⟩ | ⟨a,ln,cp,m,n,D,Pl,hcs,_,hl,hm,hmm,hx,hi⟩
 · simp only [List.cons.injEq,Value.slice.injEq,and_true] at hcs
   obtain ⟨rfl,rfl,rfl⟩:=hcs
   exact ⟨[],.inl ⟨_,_,rfl,rfl⟩,rfl,Nat.le_refl _,by unfold maxLen;omega,fun t h=>by cases h⟩
 · simp only [List.cons.injEq,Value.slice.injEq,and_true] at hcs
   obtain ⟨rfl,rfl,rfl⟩:=hcs
   have h3:Tryz.prog.cellsOf 59=6:=by kernel_rfl
   rw [h3] at hi
   have hle:len0≤m:=by rw [hmm];split <;> omega
   obtain ⟨f,hfc⟩:=Go.Deep.choose_lt (n:=len0) (p:=fun i (t:Wr)=>W.cells? 0 (a.add (i * 6)) 6=some (wrC t)∧D i=wrD t∧-9223372036854775808≤t.n∧t.n≤9223372036854775807) (fun i hlt=>by
     obtain ⟨cs',hc,ht⟩:=hi i (by omega)
     obtain ⟨t,h1,h2,h4⟩:=wr_elem ht
     exact ⟨t,by rw [hc,h1],h2,h4⟩)
   have hll:((List.range len0).map f).length=len0:=by simp
   refine ⟨(List.range len0).map f,?_,hll,hl,hm,fun t ht=>?_⟩
   · by_cases hz:len0=0
     · subst hz;exact .inl ⟨_,_,rfl,rfl⟩
     · obtain ⟨b,off,spot⟩:=a
       have hcell:∀ i,i < len0→∀ r,r < 6→W.cell? ((⟨b,off,spot⟩:Addr).add (i * 6 + r))=(wrC (f i))[r]? := fun i hlt r hr=>by
         obtain ⟨_,_,hat⟩:=World.cells?_some (hfc i hlt).1
         rw [←Go.Deep.add_add];exact hat r hr
       have h0:=hcell 0 (by omega) 0 (by omega)
       have hspot:spot=none:=by simpa [Addr.add] using World.cell?_spot (h0.trans rfl)
       subst hspot
       refine .inr ⟨b,off,cap0,by rw [hll],by rw [hll];omega,block_lt_of_cell (h0.trans rfl),fun j u hj=>?_⟩
       have hjl:j < len0 * 6:=by rw [←hll,←wrsC_len];exact (List.getElem?_eq_some_iff.1 hj).1
       have hc:=hcell (j / 6) (by omega) (j % 6) (Nat.mod_lt _ (by decide))
       have hti:((List.range len0).map f)[j / 6]? = some (f (j / 6)):=by
         rw [List.getElem?_map,List.getElem?_range (by omega)];rfl
       have h5:=wrsC_at _ _ (j % 6) _ hti (Nat.mod_lt _ (by decide))
       rw [show j / 6 * 6 + j % 6=j by omega] at hc h5
       rw [←h5,hj] at hc
       rw [←hc]
       refine congrArg W.cell? ?_
       unfold Addr.add
       split
       · rename_i e;rw [e];rfl
       · rfl
   · obtain ⟨i,hir,hit⟩:=List.mem_map.1 ht
     have hil:=List.mem_range.1 hir
     have hd:d=.slice ((List.range len0).map D) ((List.range (m - len0)).map fun j=>D (len0 + j)):=(Prod.mk.inj hx).1
     have hmem:wrD t∈(List.range len0).map D:=List.mem_map.2 ⟨i,hir,by rw [(hfc i hil).2.1,hit]⟩
     have hwt:=wr_weight _ t hmem
     have hin:∀ y∈DataW.weightsAll Tryz.prog 59 ((List.range len0).map D),y≤reachBytes:=fun y hy=>hw y (by
       rw [hd,DataW.weights,Tryz.underlying23]
       exact List.mem_cons_of_mem _ (List.mem_append_left _ hy))
     have g1:=hin _ hwt.1
     have g2:=hin _ hwt.2
     unfold reachBytes at g1 g2
     have hn:=(hfc i hil).2.2
     rw [hit] at hn
     exact ⟨hn.1,hn.2,by omega,by omega⟩
def BatIs (W:World) (vf vh vw:Value) (f h:List Ent) (l:List Wr):Prop :=
 IsEnts W vf f∧IsEnts W vh h∧IsWrs W vw l∧f.length≤9223372036854775807∧h.length≤9223372036854775807∧l.length≤9223372036854775807∧∀ t∈l,WrOk t
theorem BatIs.below {w w':World} {vf vh vw:Value} {f h:List Ent} {l:List Wr} (hx:BatIs w vf vh vw f h l) (hb:Below w.heap.size w w'):BatIs w' vf vh vw f h l :=
 ⟨hx.1.below hb,hx.2.1.below hb,hx.2.2.1.below hb,hx.2.2.2⟩
theorem BatIs.alloc {w:World} {vf vh vw:Value} {f h:List Ent} {l:List Wr} (hx:BatIs w vf vh vw f h l) (o:Obj):BatIs (w.alloc o) vf vh vw f h l :=
 hx.below ((Below.refl _ _).alloc (Nat.le_refl _) o)
set_option maxRecDepth 100000 in
theorem batArg {H:Type} {enc:TypeId×Value→H} {W:World} {spare:Nat→Bool} {held:Bool} {v:Value} {d:DataW H} {p:List MemPlace} {base:Nat}
   (hv:Value.okWide Tryz.prog W .any base 25 v) (h:DataW.Trod enc Tryz.prog W 0 spare held 25 v d p)
   (hw:∀ x∈DataW.weights Tryz.prog 25 d,x≤reachBytes):∃ vf vh vw f h l,v=.agg #[vf,vh,vw]∧BatIs W vf vh vw f h l:=by
 obtain ⟨cs,rfl,hsz⟩:=okWide_struct Tryz.underlying25 hv
 obtain ⟨fuel,hf⟩:=h
 obtain ⟨vf,vh,vw,⟨df,pf⟩,⟨dh,ph⟩,⟨dw,pw⟩,m,hcs,hd,g0,g1,g2⟩:=three_fieldsB Tryz.underlying25 (by kernel_rfl) (by kernel_rfl) hf
 obtain ⟨af,nf,cf,rfl⟩:=slice_of Tryz.underlying22 g0
 obtain ⟨ah,nh,ch,rfl⟩:=slice_of Tryz.underlying22 g1
 obtain ⟨aw,nw,cw,rfl⟩:=slice_of Tryz.underlying23 g2
 obtain ⟨f,if_,lf,cf1,mf⟩:=entsArg g0
 obtain ⟨h,ih_,lh,ch1,mh⟩:=entsArg g1
 obtain rfl:d=.agg [df,dh,dw]:=hd
 obtain ⟨l,iw,lw,cw1,mw,ow⟩:=wrsArg g2 (fun x hx=>hw x (by
   rw [DataW.weights,Tryz.underlying25]
   show x∈DataW.weightsEach _ (_ :: _ :: _ :: _) (_ :: _ :: _ :: _)
   rw [DataW.weightsEach,DataW.weightsEach,DataW.weightsEach]
   exact List.mem_append_right _ (List.mem_append_right _ (List.mem_append_left _ hx))))
 unfold maxLen at mf mh mw
 refine ⟨_,_,_,f,h,l,?_,if_,ih_,iw,by omega,by omega,by omega,ow⟩
 have:cs.toList=[.slice af nf cf,.slice ah nh ch,.slice aw nw cw]:=by simpa [Value.cells] using hcs
 rw [←Array.toArray_toList (xs:=cs),this]
end Go.Proofs.YtjkbmfpomgcblaaGreatDoor
namespace Go.Proofs.YtjkbmfpomgcblaaGreatDoor
open Go.RowKit
def byteN (E j:Nat):Nat:=E / 2 ^ (8 * j) % 256
theorem byteN_lt (E j:Nat):byteN E j < 256:=Nat.mod_lt _ (by decide)
theorem byteN_bit (E j i:Nat):(byteN E j).testBit i=(decide (i < 8) && E.testBit (8 * j + i)):=by
 unfold byteN
 rw [show 256=2 ^ 8 by decide,Nat.testBit_mod_two_pow,Nat.testBit_div_two_pow,Nat.add_comm]
theorem byteN_xor (a b j:Nat):byteN (a ^^^ b) j=byteN a j ^^^ byteN b j:=by
 refine Nat.eq_of_testBit_eq fun i=>?_
 rw [Nat.testBit_xor,byteN_bit,byteN_bit,byteN_bit,Nat.testBit_xor]
 cases decide (i < 8) <;> simp
theorem byteN_pow (k j:Nat):byteN (2 ^ k) j=if k / 8=j then 2 ^ (k % 8) else 0:=by
 refine Nat.eq_of_testBit_eq fun i=>?_
 rw [byteN_bit,Nat.testBit_two_pow]
 by_cases h:k / 8=j
 · rw [if_pos h,Nat.testBit_two_pow]
   by_cases hi:i < 8
   · simp only [hi,decide_true,Bool.true_and]
     congr 1
     apply propext
     omega
   · simp [hi];omega
 · rw [if_neg h]
   by_cases hi:i < 8
   · simp only [hi,decide_true,Bool.true_and,Nat.zero_testBit]
     exact decide_eq_false (by omega)
   · simp [hi]
theorem byteN_mod (y N j:Nat) (h:j < N):byteN (y % 2 ^ (8 * N)) j=byteN y j:=by
 refine Nat.eq_of_testBit_eq fun i=>?_
 rw [byteN_bit,byteN_bit,Nat.testBit_mod_two_pow]
 by_cases hi:i < 8
 · simp [hi,show 8 * j + i < 8 * N by omega]
 · simp [hi]
theorem burst_next_yes (bits f i:Nat) (h:bits / 2 ^ i % 2=1):burst bits f (i + 1)=burst bits f i ^^^ 2 ^ (f + i):=by
 unfold burst
 rw [mod_split bits i h]
 refine Nat.eq_of_testBit_eq fun j=>?_
 rw [Nat.testBit_xor,Nat.mul_comm,Nat.testBit_two_pow_mul,Nat.mul_comm,Nat.testBit_two_pow_mul,Nat.testBit_xor,Nat.testBit_two_pow,Nat.testBit_two_pow]
 by_cases hj:f≤j
 · simp only [hj,decide_true,Bool.true_and]
   congr 2
   apply propext
   omega
 · simp only [hj,decide_false,Bool.false_and,Bool.false_xor]
   exact (decide_eq_false (by omega)).symm
theorem burst_next_no (bits f i:Nat) (h:¬ bits / 2 ^ i % 2=1):burst bits f (i + 1)=burst bits f i:=by
 unfold burst
 rw [mod_skip bits i h]
def turnN (l:List UInt8) (bits f i j:Nat):Nat:=(l.getD j 0).toNat ^^^ byteN (burst bits f i) j
theorem turnN_lt (l:List UInt8) (bits f i j:Nat):turnN l bits f i j < 256:=Nat.xor_lt_two_pow (n:=8) (l.getD j 0).toNat_lt (byteN_lt _ _)
theorem turnN_zero (l:List UInt8) (bits f j:Nat):turnN l bits f 0 j=(l.getD j 0).toNat:=by
 unfold turnN burst byteN
 rw [Nat.pow_zero,Nat.mod_one,Nat.zero_mul,Nat.zero_div,Nat.zero_mod,Nat.xor_zero]
theorem turnN_skip (l:List UInt8) (bits f i j:Nat) (h:¬ bits / 2 ^ i % 2=1):turnN l bits f (i + 1) j=turnN l bits f i j:=by
 unfold turnN;rw [burst_next_no _ _ _ h]
theorem turnN_other (l:List UInt8) (bits f i j:Nat) (hj:(f + i) / 8≠j):turnN l bits f (i + 1) j=turnN l bits f i j:=by
 by_cases h:bits / 2 ^ i % 2=1
 · unfold turnN;rw [burst_next_yes _ _ _ h,byteN_xor,byteN_pow,if_neg hj,Nat.xor_zero]
 · exact turnN_skip l bits f i j h
theorem turnN_here (l:List UInt8) (bits f i:Nat) (h:bits / 2 ^ i % 2=1):turnN l bits f (i + 1) ((f + i) / 8)=turnN l bits f i ((f + i) / 8) ^^^ 2 ^ ((f + i) % 8):=by
 unfold turnN;rw [burst_next_yes _ _ _ h,byteN_xor,byteN_pow,if_pos rfl,Nat.xor_assoc]
def turnL (l:List UInt8) (f bits:Nat):List UInt8:=(List.range l.length).map fun j=>UInt8.ofNat (turnN l bits f 32 j)
theorem turnL_len (l:List UInt8) (f bits:Nat):(turnL l f bits).length=l.length:=by simp [turnL]
theorem turnL_at (l:List UInt8) (f bits j:Nat) (h:j < (turnL l f bits).length):(turnL l f bits)[j].toNat=turnN l bits f 32 j:=by
 have:=turnN_lt l bits f 32 j
 simp [turnL]
 omega
theorem turnL_seen (l:List UInt8) (f bits:Nat) (hb:bits < 4294967296) (hf:f≤8 * l.length) (ho:(openL l).2=0):(openL (turnL l f bits)).2=0↔turnL l f bits=l:=by
 refine burst_seen l (turnL l f bits) bits f hb hf (turnL_len l f bits) ho fun j h h'=>?_
 rw [turnL_at]
 unfold turnN
 rw [List.getD_eq_getElem?_getD,List.getElem?_eq_getElem h']
 show l[j].toNat ^^^ _=_ ^^^ byteN (burst bits f (8 * l.length - f)) j
 congr 1
 rw [←byteN_mod (burst bits f 32) l.length j h']
 congr 1
 unfold burst
 rw [Nat.mod_eq_of_lt (show bits < 2 ^ 32 from hb)]
 have e:2 ^ (8 * l.length)=2 ^ (8 * l.length - f) * 2 ^ f:=by rw [←Nat.pow_add];congr 1;omega
 rw [e,Nat.mul_mod_mul_right]
def rowC (u:Nat→Nat) (sz n:Nat):Array Value:=((List.range n).map fun j=>Value.int .u8 (if j < sz then ((u j:Nat):Int) else 0)).toArray
theorem rowC_size (u:Nat→Nat) (sz n:Nat):(rowC u sz n).size=n:=by simp [rowC]
theorem rowC_at (u:Nat→Nat) (sz n j:Nat) (h:j < n) (hs:j < sz):(rowC u sz n)[j]? = some (.int .u8 ((u j:Nat):Int)):=by
 unfold rowC
 simp [h,hs]
theorem rowC_past (u:Nat→Nat) (sz n j:Nat) (h:j < n) (hs:¬ j < sz):(rowC u sz n)[j]? = some (.int .u8 0):=by
 unfold rowC
 simp [h,hs]
theorem rowC_congr {u v:Nat→Nat} {sz n:Nat} (h:∀ j,j < sz→u j=v j):rowC u sz n=rowC v sz n:=by
 unfold rowC
 congr 1
 apply List.map_congr_left
 intro j _
 by_cases hj:j < sz
 · rw [if_pos hj,if_pos hj,h j hj]
 · rw [if_neg hj,if_neg hj]
theorem rowC_set (u v:Nat→Nat) (sz n p:Nat) (hp:p < sz) (hn:sz≤n) (x:Int) (hx:x=(v p:Nat)) (h:∀ j,j < sz→p≠j→v j=u j):(rowC u sz n).setIfInBounds p (.int .u8 x)=rowC v sz n:=by
 apply Array.ext_getElem?
 intro j
 rw [Array.getElem?_setIfInBounds,rowC_size]
 by_cases hj:j < n
 · by_cases e:p=j
   · subst e;rw [if_pos rfl,if_pos (by omega),rowC_at _ _ _ _ hj hp,hx]
   · rw [if_neg e]
     by_cases hs:j < sz
     · rw [rowC_at _ _ _ _ hj hs,rowC_at _ _ _ _ hj hs,h j hs e]
     · rw [rowC_past _ _ _ _ hj hs,rowC_past _ _ _ _ hj hs]
 · rw [Array.getElem?_eq_none (by rw [rowC_size];omega),Array.getElem?_eq_none (by rw [rowC_size];omega),if_neg (by omega)]
theorem bytesRow_rowC (s:ByteArray) (cap:Nat):bytesRow s cap=rowC (fun j=>(s.data.toList.getD j 0).toNat) s.size (s.size + (cap - s.size)):=by
 apply Array.ext_getElem?
 intro j
 unfold bytesRow
 rw [Array.getElem?_append]
 by_cases hs:j < s.size
 · rw [if_pos (by simpa using hs),rowC_at _ _ _ _ (by omega) hs]
   have hs':j < s.data.size:=hs
   rw [Array.getElem?_map,Array.getElem?_eq_getElem hs',List.getD_eq_getElem?_getD,Array.getElem?_toList,Array.getElem?_eq_getElem hs']
   rfl
 · have hz:(s.data.map fun b=>Value.int .u8 (b.toNat:Int)).size=s.size:=by simp
   rw [if_neg (by rw [hz];exact hs),hz,Array.getElem?_replicate]
   by_cases hj:j < s.size + (cap - s.size)
   · rw [if_pos (by omega),rowC_past _ _ _ _ hj hs]
   · rw [if_neg (by omega),Array.getElem?_eq_none (by rw [rowC_size];omega)]
end Go.Proofs.YtjkbmfpomgcblaaGreatDoor
