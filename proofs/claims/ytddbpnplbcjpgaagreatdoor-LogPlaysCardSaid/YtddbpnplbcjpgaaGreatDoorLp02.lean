import Derived.Maps.OwnSet
import Derived.Maps.OwnOps
import Derived.WalkKit
import Derived.Test.YtddbpnplbcjpgaaGreatDoorProg
import Derived.Handy
import Derived.KernelRfl
import Derived.Deep.AppendLies
import Derived.Laws.OwnMore
import Derived.Shelf.SlSortCmp.WholeK
import Derived.Ground.SlsfProg
import Derived.Lib.Overlaps
import Derived.Lib.AppendZerosOnto
import Derived.Laws.IdiomCopy
import Derived.Deep.AppendSrc
import Derived.Deep.Upon
import Derived.Lib.JoinLaws
import Derived.Lib.SliceRun
import Derived.Lib.LazyBuf
import Derived.Deep.RegionLaw
import Derived.Laws.Externs
import Derived.Lib.Walk
import Derived.WalkSmall
import Derived.Lib.Hide
import Derived.Below
namespace Go.Proofs.YtddbpnplbcjpgaaGreatDoor
open Go.Maps
def keyL (s:ByteArray):Lit:=.string s.data.toList
theorem keyL_inj {a b:ByteArray} (h:keyL a=keyL b):a=b:=by
 unfold keyL at h
 cases a;cases b
 simpa using h
theorem keyL_key (s:ByteArray):WideAt.IsKeyLit (keyL s):=trivial
theorem keyN (k:Int):WideAt.IsKeyLit (.int .i64 k):=trivial
structure NumM (D:DataW Unit) (t:List ByteArray):Prop where
 isMap:IsMap D
 nodup:t.Nodup
 there:∀ s,s∈t→has D (keyL s)=true
 none:∀ s,s ∉ t→has D (keyL s)=false
 at':∀ s (j:Nat),t[j]? = some s→D.atKey (keyL s) (.lit (.int .i64 0))=.lit (.int .i64 j)
theorem NumM.put {D:DataW Unit} {t:List ByteArray} (h:NumM D t) {s:ByteArray} (hs:s ∉ t):NumM (D.put (keyL s) (.lit (.int .i64 t.length))) (t ++ [s]):=by
 refine ⟨h.isMap.put _ _,?_,?_,?_,?_⟩
 · rw [List.nodup_append]
   exact ⟨h.nodup,by simp,fun a ha b hb=>by simp at hb;subst hb;rintro rfl;exact hs ha⟩
 · intro x hx
   rcases List.mem_append.1 hx with hx | hx
   · rw [has_put_other (fun e=>hs (by rw [←keyL_inj e];exact hx))];exact h.there x hx
   · simp at hx;subst hx;exact has_put_same h.isMap (keyL_key _) _
 · intro x hx
   have h1:x ∉ t:=fun h=>hx (List.mem_append_left _ h)
   have h2:x≠s:=fun e=>hx (by rw [e];simp)
   rw [has_put_other (fun e=>h2 (keyL_inj e))];exact h.none x h1
 · intro x j hj
   by_cases hlt:j < t.length
   · rw [List.getElem?_append_left hlt] at hj
     have hx:x∈t:=List.mem_of_getElem? hj
     rw [atKey_put_other (fun e=>hs (by rw [←keyL_inj e];exact hx))];exact h.at' x j hj
   · rw [List.getElem?_append_right (by omega)] at hj
     have hj0:j - t.length=0:=by have:=(List.getElem?_eq_some_iff.1 hj).1;simpa using this
     rw [hj0] at hj
     simp at hj
     subst hj
     rw [atKey_put_same h.isMap (keyL_key _)]
     rw [show j=t.length by omega]
structure SetM (D:DataW Unit) (t:List ByteArray):Prop where
 isMap:IsMap D
 there:∀ s,s∈t→D.atKey (keyL s) (.lit (.bool false))=.lit (.bool true)
 none:∀ s,s ∉ t→D.atKey (keyL s) (.lit (.bool false))=.lit (.bool false)
theorem SetM.put {D:DataW Unit} {t:List ByteArray} (h:SetM D t) (s:ByteArray):SetM (D.put (keyL s) (.lit (.bool true))) (t ++ [s]):=by
 refine ⟨h.isMap.put _ _,?_,?_⟩
 · intro x hx
   by_cases e:x=s
   · subst e;rw [atKey_put_same h.isMap (keyL_key _)]
   · rw [atKey_put_other (fun h=>e (keyL_inj h))]
     rcases List.mem_append.1 hx with hx | hx
     · exact h.there x hx
     · simp at hx;exact absurd hx e
 · intro x hx
   have h1:x ∉ t:=fun h=>hx (List.mem_append_left _ h)
   have h2:x≠s:=fun e=>hx (by rw [e];simp)
   rw [atKey_put_other (fun e=>h2 (keyL_inj e))];exact h.none x h1
structure ToldM (D:DataW Unit) (m:Nat):Prop where
 tidy:Tidy D
 size:Maps.size D=m
 below:∀ j:Nat,has D (.int .i64 j)=decide (j < m)
theorem ToldM.old {D:DataW Unit} {m j:Nat} (h:ToldM D m) (hj:j < m):ToldM (D.put (.int .i64 j) (.lit (.bool true))) m:=by
 refine ⟨h.tidy.put (keyN _) _,?_,?_⟩
 · rw [size_put h.tidy,h.below j,if_pos (by simpa using hj),h.size]
 · intro i
   by_cases e:i=j
   · subst e;rw [has_put_same h.tidy.isMap (keyN _)];simp [hj]
   · rw [has_put_other (by simp;omega)];exact h.below i
theorem ToldM.new {D:DataW Unit} {m:Nat} (h:ToldM D m):ToldM (D.put (.int .i64 m) (.lit (.bool true))) (m + 1):=by
 refine ⟨h.tidy.put (keyN _) _,?_,?_⟩
 · rw [size_put h.tidy,h.below m,if_neg (by simp),h.size]
 · intro i
   by_cases e:i=m
   · subst e;rw [has_put_same h.tidy.isMap (keyN _)];simp
   · rw [has_put_other (by simp;omega),h.below i]
     by_cases h1:i < m
     · simp [h1];omega
     · simp [h1];omega
end Go.Proofs.YtddbpnplbcjpgaaGreatDoor
namespace Go.Proofs.YtddbpnplbcjpgaaGreatDoor
open Go.RowKit
theorem info_str:(Tryz.prog.info? 9).map (fun i=>(i.zero,i.size,i.bytes))=some (some (.string ⟨#[]⟩),1,16):=by kernel_rfl
def ownsS (w:World) (base:Nat) (v:Value) (l:List ByteArray):Prop:=w.ownsRow base 9 1 v l.length (l.map Value.string)
theorem ownsS_nil (w:World) (base:Nat):ownsS w base (.slice none 0 0) []:=World.ownsRow_nil _ _ _ _
theorem ownsS.alloc {w:World} {base:Nat} {v:Value} {l:List ByteArray} (h:ownsS w base v l) (o:Obj):ownsS (w.alloc o) base v l:=World.ownsRow.alloc h o
theorem ownsS.drew {w:World} {base:Nat} {v:Value} {l:List ByteArray} (h:ownsS w base v l):ownsS w.drew base v l:=World.ownsRow.drew h
theorem ownsS.lt {w:World} {base:Nat} {v:Value} {l:List ByteArray} (h:ownsS w base v l):∀ k,v.ownBlock=some k→base≤k∧k < w.heap.size:=World.ownsRow.lt h
theorem ownsS.below {w w':World} {base:Nat} {v:Value} {l:List ByteArray} (h:ownsS w base v l) (hb:Below w.heap.size w w'):ownsS w' base v l:=by
 refine World.ownsRow.kept h (row:=none) ⟨hb.os,hb.tape,hb.output,hb.size,fun k hk _=>hb.block k hk⟩ ?_
 cases hv:v.ownBlock with
 | none=>exact .inl rfl
 | some g=>exact .inr (by simp)
theorem ownsS.forms {w:World} {base:Nat} {v:Value} {l:List ByteArray} (h:ownsS w base v l) :
   (v=.slice none 0 0∧l=[])∨∃ g cap,v=.slice (some ⟨g,0,none⟩) l.length cap∧base≤g∧g < w.heap.size∧∀ j,j < l.length→w.cell? ⟨g,j,none⟩=some (.string (l.getD j ByteArray.empty)):=by
 have hall:=h
 obtain ⟨h0,h1⟩:=h
 rcases h1 with ⟨rfl,hn⟩ | ⟨g,cap,cur,rfl,hb,hh,hc,hm,hs,ht⟩
 · exact .inl ⟨rfl,List.length_eq_zero_iff.1 hn⟩
 · refine .inr ⟨g,cap,rfl,hb,(World.ownsRow.lt hall g rfl).2,fun j hj=>?_⟩
   rw [World.ownsRow.cellAt hall j (by omega)]
   simp [List.getElem?_eq_getElem hj]
theorem wpList_append_str {w:World} {ops:Array Oper} {rest:List Oper} {o:Oper} {a:Act} {Q:Exit→Act→World→Prop} (hgd:o.guard=none) (s x:Operand)
   (ho:o.op=.call { callee:=.builtin .append,args:=#[s,x],argTypes:=#[103,103] })
   (base:Nat) (v:Value) (l:List ByteArray) (hs:a.eval s=v) (hown:ownsS w base v l)
   (ad:Addr) (c:Nat) (hx:a.eval x=.slice (some ad) 1 c) (d:ByteArray) (hcell:w.cell? (ad.add 0)=some (.string d))
   (hlen:l.length + 1≤8796093022208) (hbase:base≤w.heap.size)
   (h:∀ g cap w',ownsS w' base (.slice (some ⟨g,0,none⟩) (l.length + 1) cap) (l ++ [d])→w.grownBy w' v.ownBlock→wpList Tryz.prog ops Q rest (a.put o.dst (.slice (some ⟨g,0,none⟩) (l.length + 1) cap)) w'):wpList Tryz.prog ops Q (o :: rest) a w:=by
 obtain ⟨i0,hi,hz0,hz1,hz2⟩:=info_parts info_str
 refine wpList_append_lies w hgd s x 103 ho base 9 i0 (.string ⟨#[]⟩) 1 16 Tryz.underlying103 hi hz0 hz1 hz2 rfl (by decide) v l.length (l.map Value.string) hs hown ad 1 c [.string d] hx rfl ?_ ?_ (by decide) (by unfold maxLen;omega) (by omega) hbase _ rfl ?_
 · intro j u hj
   match j,hj with
   | 0,hj=>simp at hj;subst hj;exact hcell
 · intro u hu;simp at hu;subst hu;rfl
 · intro g cap w' h1 h2 _ _
   refine h g cap w' ?_ h2
   unfold ownsS
   rw [List.length_append,List.map_append]
   exact h1
end Go.Proofs.YtddbpnplbcjpgaaGreatDoor
namespace Go.Proofs.YtddbpnplbcjpgaaGreatDoor
open Go.RowKit
theorem info_int:(Tryz.prog.info? 3).map (fun i=>(i.zero,i.size,i.bytes))=some (some (.int .i64 0),1,8):=by kernel_rfl
def natV (n:Nat):Value:=.int .i64 (n:Int)
def ownsN (w:World) (base:Nat) (v:Value) (l:List Nat):Prop:=w.ownsRow base 3 1 v l.length (l.map natV)
theorem ownsN_nil (w:World) (base:Nat):ownsN w base (.slice none 0 0) []:=World.ownsRow_nil _ _ _ _
theorem ownsN.alloc {w:World} {base:Nat} {v:Value} {l:List Nat} (h:ownsN w base v l) (o:Obj):ownsN (w.alloc o) base v l:=World.ownsRow.alloc h o
theorem ownsN.drew {w:World} {base:Nat} {v:Value} {l:List Nat} (h:ownsN w base v l):ownsN w.drew base v l:=World.ownsRow.drew h
theorem ownsN.lt {w:World} {base:Nat} {v:Value} {l:List Nat} (h:ownsN w base v l):∀ k,v.ownBlock=some k→base≤k∧k < w.heap.size:=World.ownsRow.lt h
theorem ownsN.below {w w':World} {base:Nat} {v:Value} {l:List Nat} (h:ownsN w base v l) (hb:Below w.heap.size w w'):ownsN w' base v l:=by
 refine World.ownsRow.kept h (row:=none) ⟨hb.os,hb.tape,hb.output,hb.size,fun k hk _=>hb.block k hk⟩ ?_
 cases hv:v.ownBlock with
 | none=>exact .inl rfl
 | some g=>exact .inr (by simp)
theorem ownsN.forms {w:World} {base:Nat} {v:Value} {l:List Nat} (h:ownsN w base v l) :
   (v=.slice none 0 0∧l=[])∨∃ g cap,v=.slice (some ⟨g,0,none⟩) l.length cap∧base≤g∧g < w.heap.size∧∀ j,j < l.length→w.cell? ⟨g,j,none⟩=some (.int .i64 ((l.getD j 0:Nat):Int)):=by
 have hall:=h
 obtain ⟨h0,h1⟩:=h
 rcases h1 with ⟨rfl,hn⟩ | ⟨g,cap,cur,rfl,hb,hh,hc,hm,hs,ht⟩
 · exact .inl ⟨rfl,List.length_eq_zero_iff.1 hn⟩
 · refine .inr ⟨g,cap,rfl,hb,(World.ownsRow.lt hall g rfl).2,fun j hj=>?_⟩
   rw [World.ownsRow.cellAt hall j (by omega)]
   simp [List.getElem?_eq_getElem hj,natV]
theorem wpList_append_int {w:World} {ops:Array Oper} {rest:List Oper} {o:Oper} {a:Act} {Q:Exit→Act→World→Prop} (hgd:o.guard=none) (s x:Operand)
   (ho:o.op=.call { callee:=.builtin .append,args:=#[s,x],argTypes:=#[110,110] })
   (base:Nat) (v:Value) (l:List Nat) (hs:a.eval s=v) (hown:ownsN w base v l)
   (ad:Addr) (c:Nat) (hx:a.eval x=.slice (some ad) 1 c) (d:Nat) (hcell:w.cell? (ad.add 0)=some (.int .i64 (d:Int)))
   (hlen:l.length + 1≤8796093022208) (hbase:base≤w.heap.size)
   (h:∀ g cap w',ownsN w' base (.slice (some ⟨g,0,none⟩) (l.length + 1) cap) (l ++ [d])→w.grownBy w' v.ownBlock→wpList Tryz.prog ops Q rest (a.put o.dst (.slice (some ⟨g,0,none⟩) (l.length + 1) cap)) w'):wpList Tryz.prog ops Q (o :: rest) a w:=by
 obtain ⟨i0,hi,hz0,hz1,hz2⟩:=info_parts info_int
 refine wpList_append_lies w hgd s x 110 ho base 3 i0 (.int .i64 0) 1 8 Tryz.underlying110 hi hz0 hz1 hz2 rfl (by decide) v l.length (l.map natV) hs hown ad 1 c [natV d] hx rfl ?_ ?_ (by decide) (by unfold maxLen;omega) (by omega) hbase _ rfl ?_
 · intro j u hj
   match j,hj with
   | 0,hj=>simp at hj;subst hj;exact hcell
 · intro u hu;simp at hu;subst hu;rfl
 · intro g cap w' h1 h2 _ _
   refine h g cap w' ?_ h2
   unfold ownsN
   rw [List.length_append,List.map_append]
   exact h1
end Go.Proofs.YtddbpnplbcjpgaaGreatDoor
namespace Go.Proofs
open Go.Shelf
def Tryz.sortC_ren:Go.Shelf.Ren:=⟨fun | 6=>111 | 15=>115 | 14=>127 | 28=>138 | 29=>139 | 20=>153 | 21=>154 | 22=>155 | 23=>156 | 24=>157 | 25=>158 | 26=>159 | 27=>160 | 46=>175 | 47=>163 | 48=>164 | 49=>176 | 50=>177 | 57=>182 | n=>n,fun | 22=>67 | 24=>105 | 25=>173 | 3=>3 | 39=>176 | 0=>0 | 53=>202 | 55=>204 | 4=>4 | 46=>196 | 45=>195 | 50=>132 | 5=>5 | 9=>9 | 66=>217 | 70=>221 | 76=>231 | 77=>232 | n=>n,fun | n=>n⟩
theorem Tryz.sortC:Go.Proofs.SlLaysF0.n6 Tryz.prog Tryz.sortC_ren:={
 mixed:=by kernel_rfl
 f6:=⟨Tryz.f111.name,by decide,Tryz.func111.trans (congrArg some (by kernel_rfl))⟩
 f14:=⟨Tryz.f127.name,by decide,Tryz.func127.trans (congrArg some (by kernel_rfl))⟩
 f15:=Tryz.func115.trans (congrArg some (by kernel_rfl))
 f20:=⟨Tryz.f153.name,by decide,Tryz.func153.trans (congrArg some (by kernel_rfl))⟩
 f21:=⟨Tryz.f154.name,by decide,Tryz.func154.trans (congrArg some (by kernel_rfl))⟩
 f22:=⟨Tryz.f155.name,by decide,Tryz.func155.trans (congrArg some (by kernel_rfl))⟩
 f23:=⟨Tryz.f156.name,by decide,Tryz.func156.trans (congrArg some (by kernel_rfl))⟩
 f24:=⟨Tryz.f157.name,by decide,Tryz.func157.trans (congrArg some (by kernel_rfl))⟩
 f25:=⟨Tryz.f158.name,by decide,Tryz.func158.trans (congrArg some (by kernel_rfl))⟩
 f26:=⟨Tryz.f159.name,by decide,Tryz.func159.trans (congrArg some (by kernel_rfl))⟩
 f27:=⟨Tryz.f160.name,by decide,Tryz.func160.trans (congrArg some (by kernel_rfl))⟩
 f28:=Tryz.func138.trans (congrArg some (by kernel_rfl))
 f29:=Tryz.func139.trans (congrArg some (by kernel_rfl))
 f46:=⟨Tryz.f175.name,by decide,Tryz.func175.trans (congrArg some (by kernel_rfl))⟩
 f47:=Tryz.func163.trans (congrArg some (by kernel_rfl))
 f48:=Tryz.func164.trans (congrArg some (by kernel_rfl))
 f49:=⟨Tryz.f176.name,by decide,Tryz.func176.trans (congrArg some (by kernel_rfl))⟩
 f50:=⟨Tryz.f177.name,by decide,Tryz.func177.trans (congrArg some (by kernel_rfl))⟩
 f57:=⟨Tryz.f182.name,by decide,Tryz.func182.trans (congrArg some (by kernel_rfl))⟩
 t0:=Tryz.underlying0
 a0:=Tryz.isAgg0
 z0:=Tryz.sizeOf0
 v0:=Tryz.zeroValue0
 t3:=Tryz.underlying3
 a3:=Tryz.isAgg3
 z3:=Tryz.sizeOf3
 v3:=Tryz.zeroValue3
 t4:=Tryz.underlying4
 a4:=Tryz.isAgg4
 z4:=Tryz.sizeOf4
 v4:=Tryz.zeroValue4
 t5:=Tryz.underlying5
 a5:=Tryz.isAgg5
 z5:=Tryz.sizeOf5
 v5:=Tryz.zeroValue5
 t9:=Tryz.underlying9
 a9:=Tryz.isAgg9
 z9:=Tryz.sizeOf9
 v9:=Tryz.zeroValue9
 t22:=Tryz.underlying67
 a22:=Tryz.isAgg67
 z22:=Tryz.sizeOf67
 v22:=Tryz.zeroValue67
 t25:=Tryz.underlying173
 a25:=Tryz.isAgg173
 z25:=Tryz.sizeOf173
 v25:=Tryz.zeroValue173
 t39:=Tryz.underlying176
 a39:=Tryz.isAgg176
 z39:=Tryz.sizeOf176
 v39:=Tryz.zeroValue176
 t45:=Tryz.underlying195
 a45:=Tryz.isAgg195
 z45:=Tryz.sizeOf195
 v45:=Tryz.zeroValue195
 t46:=Tryz.underlying196
 a46:=Tryz.isAgg196
 z46:=Tryz.sizeOf196
 v46:=Tryz.zeroValue196
 t50:=Tryz.underlying132
 a50:=Tryz.isAgg132
 z50:=Tryz.sizeOf132
 v50:=Tryz.zeroValue132
 t53:=Tryz.underlying202
 a53:=Tryz.isAgg202
 z53:=Tryz.sizeOf202
 v53:=Tryz.zeroValue202
 t55:=Tryz.underlying204
 a55:=Tryz.isAgg204
 z55:=Tryz.sizeOf204
 v55:=Tryz.zeroValue204
 t66:=Tryz.underlying217
 a66:=Tryz.isAgg217
 z66:=Tryz.sizeOf217
 v66:=Tryz.zeroValue217
 t70:=Tryz.underlying221
 a70:=Tryz.isAgg221
 z70:=Tryz.sizeOf221
 v70:=Tryz.zeroValue221
 t76:=Tryz.underlying231
 a76:=Tryz.isAgg231
 z76:=Tryz.sizeOf231
 v76:=Tryz.zeroValue231
 t77:=Tryz.underlying232
 a77:=Tryz.isAgg232
 z77:=Tryz.sizeOf232
 v77:=Tryz.zeroValue232 }
end Go.Proofs
namespace Go.Proofs.YtddbpnplbcjpgaaGreatDoor
open Go.RowKit
def strC1 (x:ByteArray):List Value:=[.string x]
def strC (l:List ByteArray):List Value:=l.flatMap strC1
theorem strC_map (l:List ByteArray):strC l=l.map Value.string:=by
 induction l with
 | nil=>rfl
 | cons a r ih=>unfold strC at ih ⊢;rw [List.flatMap_cons,ih];rfl
theorem strC_len (l:List ByteArray):(strC l).length=l.length:=by rw [strC_map,List.length_map]
theorem strC_app (a b:List ByteArray):strC (a ++ b)=strC a ++ strC b:=by simp [strC]
theorem strC_take (l:List ByteArray) (i:Nat):strC (l.take i)=(strC l).take i:=by rw [strC_map,strC_map,List.map_take]
theorem strC_drop (l:List ByteArray) (i:Nat):strC (l.drop i)=(strC l).drop i:=by rw [strC_map,strC_map,List.map_drop]
theorem strC_cell1 (x:ByteArray):∀ u∈strC1 x,u.oneCell'=true:=by intro u hu;simp [strC1] at hu;subst hu;rfl
theorem strC_cell (l:List ByteArray):∀ u∈strC l,u.oneCell'=true:=by intro u hu;obtain ⟨t,_,ht⟩:=List.mem_flatMap.1 hu;exact strC_cell1 t u ht
def strBlk (w:World) (B:Nat) (x:ByteArray):Prop:=w.heap[B]? = some (.cells (strC1 x).toArray 9 (0,0))
theorem setCells_row {g:Nat} {T:TypeId}:∀ (vs:List Value) (o:Nat) (w:World) (cs:Array Value),w.heap[g]? = some (.cells cs T (0,0))→∃ cs',(w.setCells g o vs).heap[g]? = some (.cells cs' T (0,0))∧cs'.size=cs.size
 | [],_,_,cs,h=>⟨cs,h,rfl⟩
 | v :: r,o,w,cs,h=>by
   obtain ⟨cs',h1,h2⟩:=setCells_row r (o + 1) _ _ (heap_setCell_same w g o cs T v h)
   exact ⟨cs',h1,by rw [h2];simp⟩
theorem size_setCells {g:Nat}:∀ (vs:List Value) (o:Nat) (w:World),(w.setCells g o vs).heap.size=w.heap.size
 | [],_,_=>rfl
 | v :: r,o,w=>by rw [World.setCells,size_setCells r (o + 1)];simp
theorem grown_setCells {g:Nat} {a:World}:∀ (vs:List Value) (o:Nat) (w:World),a.grownBy w (some g)→a.grownBy (w.setCells g o vs) (some g)
 | [],_,_,h=>h
 | v :: r, o, w, h => grown_setCells r (o + 1) _ ⟨h.os, h.tape, h.output, by rw [show (w.setCell ⟨g, o, none⟩ v).heap.size = w.heap.size from by simp]; exact h.size, fun i hi hne => by
     rw [heap_setCell_other _ _ _ _ (fun e=>hne (by rw [e]))];exact h.block i hi hne⟩
theorem grown_drew {a w:World} {o:Option Nat} (h:a.grownBy w o):a.grownBy w.drew o:=⟨h.os,by rw [←h.tape];rfl,h.output,h.size,h.block⟩
theorem ownsS_of_cells {w:World} {base g cap:Nat} {cs:Array Value} {l:List ByteArray} (hb:base≤g) (hh:w.heap[g]? = some (.cells cs 9 (0,0))) (hs:cs.size=cap) (hl:l.length≤cap) (hc:cap≤maxLen)
   (hcell:∀ j u,(strC l)[j]? = some u→w.cell? ⟨g,j,none⟩=some u):ownsS w base (.slice (some ⟨g,0,none⟩) l.length cap) l:=by
 refine ⟨by simp,.inr ⟨g,cap,cs,rfl,hb,hh,hl,hc,by rw [hs,Nat.mul_one],?_⟩⟩
 rw [Nat.mul_one]
 apply List.ext_getElem?
 intro j
 by_cases hj:j < l.length
 · rw [List.getElem?_take_of_lt hj,←strC_map]
   have h1 : (strC l)[j]? = some ((strC l)[j]'(by rw [strC_len]; exact hj)) := List.getElem?_eq_getElem _
   have h2:=hcell j _ h1
   rw [cell_of_row _ _ j _ _ (0,0) hh] at h2
   rw [h1,←h2]
   exact Array.getElem?_toList
 · rw [List.getElem?_eq_none (by rw [List.length_take];omega),List.getElem?_eq_none (by rw [List.length_map];omega)]
def InsR (w:World) (i g off cap:Nat) (l:List ByteArray) (x:ByteArray) (e:Ending) (w':World):Prop :=
 e=.returned (.slice (some ⟨g,off,none⟩) (l.length + 1) cap)∧(∃ cs,w'.heap[g]? = some (.cells cs 9 (0,0))∧cs.size=cap)∧(∀ k u,(strC (l.take i ++ x :: l.drop i))[k]? = some u→w'.cell? ⟨g,off + k,none⟩=some u)∧w.grownBy w' (some g)
def InsG (w:World) (i:Nat) (l:List ByteArray) (x:ByteArray) (e:Ending) (w':World):Prop :=
 ∃ G,e=.returned (.slice (some ⟨w.heap.size,0,none⟩) (l.length + 1) G)∧l.length + 1≤G∧G≤maxLen∧(∃ cs,w'.heap[w.heap.size]? = some (.cells cs 9 (0,0))∧cs.size=G)∧(∀ k u,(strC (l.take i ++ x :: l.drop i))[k]? = some u→w'.cell? ⟨w.heap.size,k,none⟩=some u)∧w.grownBy w' none
def InsS (w:World) (base i:Nat) (v:Value) (l:List ByteArray) (x:ByteArray) (e:Ending) (w':World):Prop :=
 ∃ g cap,e=.returned (.slice (some ⟨g,0,none⟩) (l.length + 1) cap)∧ownsS w' base (.slice (some ⟨g,0,none⟩) (l.length + 1) cap) (l.take i ++ x :: l.drop i)∧w.grownBy w' v.ownBlock∧(v.ownBlock=some g∨w.heap.size≤g)∧g < w'.heap.size
def rowS (w:World) (g off cap:Nat) (l:List ByteArray):Prop :=
 (∀ j u,(strC l)[j]? = some u→w.cell? ⟨g,off + j,none⟩=some u)∧(∀ j,j < cap→(w.cell? ⟨g,off + j,none⟩).isSome=true∧w.frozen? ⟨g,off + j,none⟩=false)
theorem ownsS.rowS {w:World} {base:Nat} {v:Value} {l:List ByteArray} (h:ownsS w base v l) (h0:0 < l.length) :
   ∃ g cap,v=.slice (some ⟨g,0,none⟩) l.length cap∧base≤g∧g < w.heap.size∧l.length≤cap∧cap≤maxLen∧rowS w g 0 cap l∧∃ cs,w.heap[g]? = some (.cells cs 9 (0,0))∧cs.size=cap:=by
 have hall:=h
 have hlt:=h.lt
 obtain ⟨_,h1⟩:=h
 rcases h1 with ⟨rfl,hn⟩ | ⟨g,cap,cur,rfl,hb,hh,hc,hm,hs,ht⟩
 · omega
 · refine ⟨g,cap,rfl,hb,(hlt g rfl).2,hc,hm,⟨fun j u hj=>?_,fun j hj=>⟨?_,?_⟩⟩,?_⟩
   · have hjl:j < l.length:=by rw [←strC_len];exact (List.getElem?_eq_some_iff.1 hj).1
     rw [Nat.zero_add,World.ownsRow.cellAt hall j (by omega),←strC_map]
     exact hj
   · rw [Nat.zero_add,cell_of_row _ _ j _ _ (0,0) hh,Array.getElem?_eq_getElem (by rw [hs];omega)];rfl
   · simp [World.frozen?,hh]
   · exact ⟨cur,hh,by rw [hs,Nat.mul_one]⟩
theorem run_copyS {P:Program} (w:World) (dT sT ty elem:TypeId) (size:Nat) (b o dLen dCap:Nat) (a:Addr) (sLen sCap:Nat) (cs:List Value)
   (hu:P.underlying dT=some (.slice elem)) (hs:(P.info? elem).map (·.size)=some size) (hn:cs.length=Nat.min sLen dLen * size)
   (hsrc:∀ j v,cs[j]? = some v→w.cell? (a.add j)=some v) (hc:∀ j,j < cs.length→(w.cell? ⟨b,o + j,none⟩).isSome=true) (hf:∀ j,j < cs.length→w.frozen? ⟨b,o + j,none⟩=false) (h1:∀ v∈cs,v.oneCell'=true) :
   (Builtin.copy_ #[dT,sT] ty #[.slice (some ⟨b,o,none⟩) dLen dCap,.slice (some a) sLen sCap]).run P w=.ok (goInt (Nat.min sLen dLen)) (w.setCells b o cs):=by
 have hl:=run_loadCells_list (P:=P) w a cs hsrc
 have hst:=run_storeCells_cells (P:=P) b o cs 0 w (by simpa using hc) (by simpa using hf) h1
 cases hq:P.info? elem with
 | none=>simp [hq] at hs
 | some i =>
   have hi:i.size=size:=by simpa [hq] using hs
   simp [Builtin.copy_,run_underlying hu,Builtin.lenOf,Builtin.firstCells,sizeOf,typeInfo,hq,hi,←hn,hl,hst]
theorem rowS.cell {w:World} {g off cap:Nat} {l:List ByteArray} (h:rowS w g off cap l) {j:Nat} {u:Value} (hj:(strC l)[j]? = some u):w.cell? ⟨g,off + j,none⟩=some u:=h.1 j u hj
theorem rowS.drew {w:World} {g off cap:Nat} {l:List ByteArray} (h:rowS w g off cap l):rowS w.drew g off cap l:=h
theorem wpList_copy_runS {P:Program} (w:World) {ops:Array Oper} {rest:List Oper} {o:Oper} {a:Act} {Q:Exit→Act→World→Prop} (hgd:o.guard=none) (d s:Operand) (t t':TypeId)
   (ho:o.op=.call { callee:=.builtin .copy,args:=#[d,s],argTypes:=#[t,t'] }) (v u:Value) (hd:a.eval d=v) (hs:a.eval s=u) {v':Value} {w':World}
   (hr:(Builtin.copy_ #[t,t'] o.type #[v,u]).run P w=.ok v' w') (h:wpList P ops Q rest (a.put o.dst v') w'):wpList P ops Q (o :: rest) a w :=
 wpList_plain hgd fun K hK=>by
   unfold Oper.wp execOp
   simp only [ho,resolve,invoke,builtin,Sem.run_bind,Sem.run_pure,Result.andThen_ok,List.map_toArray,List.map_cons,List.map_nil,hd,hs,hr]
   exact hK _ _ h
theorem step_copy_runS {P:Program} {ops:Array Oper} {o:Oper} {a:Act} {w:World} {K:Act→World→Prop} {Q:Exit→Act→World→Prop} {E:Prop}
   (hg:o.guard=none) (d x:Operand) (dT sT:TypeId) (hop:o.op=Op.call { callee:=Callee.builtin Builtin.copy,args:=#[d,x],argTypes:=#[dT,sT] })
   (v u:Value) (hd:a.eval d=v) (hx:a.eval x=u) {v':Value} {w':World} (hr:(Builtin.copy_ #[dT,sT] o.type #[v,u]).run P w=.ok v' w') (hK:K (a.put o.dst v') w') :
   if Region.wanted o (yielded ops a.tmps)=true then Oper.wp P o a w K Q else E:=by
 have hw:Region.wanted o (yielded ops a.tmps)=true:=by simp [Region.wanted,hg]
 rw [if_pos hw]
 unfold Oper.wp
 simp [execOp,hop,resolve,invoke,builtin,hd,hx,hr,Result.andThen]
 exact hK
theorem setCells_someS (b:Nat) (vs:List Value) (o:Nat) (w:World) (h:∀ j,j < vs.length→(w.cell? ⟨b,o + j,none⟩).isSome=true) (k:Nat) (hk:(w.cell? ⟨b,k,none⟩).isSome=true):((w.setCells b o vs).cell? ⟨b,k,none⟩).isSome=true:=by
 by_cases hin:o≤k∧k < o + vs.length
 · have:=World.cell?_setCells_in b vs o w h (k - o) (by omega)
   rw [show o + (k - o)=k by omega] at this
   rw [this];rfl
 · rw [World.cell?_setCells_out b vs o w ⟨b,k,none⟩ (fun _ _=>by show k < o∨o + vs.length≤k;omega)]
   exact hk
theorem sins_cells {w:World} {g off i:Nat} {l:List ByteArray} {x:ByteArray} (hi:i≤l.length) (hh:∀ j,j < i→∀ u,(strC l)[j]? = some u→w.cell? ⟨g,off + j,none⟩=some u) (hall:∀ j,j < (l.length + 1)→(w.cell? ⟨g,off + j,none⟩).isSome=true) :
   ∀ k u,(strC (l.take i ++ x :: l.drop i))[k]? = some u→((w.setCells g (off + (i + 1)) (strC (l.drop i))).setCells g (off + i) (strC1 x)).cell? ⟨g,off + k,none⟩=some u:=by
 intro k u hk
 have hdl:(strC (l.drop i)).length=(l.length - i):=by rw [strC_len,List.length_drop]
 have htl:(strC (l.take i)).length=i:=by rw [strC_len,List.length_take];omega
 have hxl:(strC1 x).length=1:=rfl
 have hkl:k < (l.length + 1):=by
   have:=(List.getElem?_eq_some_iff.1 hk).1
   rw [strC_len,List.length_append,List.length_take,List.length_cons,List.length_drop] at this
   omega
 have hS1:∀ j,j < (strC (l.drop i)).length→(w.cell? ⟨g,off + (i + 1) + j,none⟩).isSome=true:=fun j hj=>by rw [Nat.add_assoc];exact hall _ (by omega)
 rw [strC_app,show strC (x :: l.drop i)=strC1 x ++ strC (l.drop i) by simp [strC]] at hk
 by_cases h1:k < i
 · rw [World.cell?_setCells_out _ _ _ _ _ (fun _ _=>.inl (by show off + k < _;omega)),World.cell?_setCells_out _ _ _ _ _ (fun _ _=>.inl (by show off + k < _;omega))]
   rw [List.getElem?_append_left (by omega),strC_take,List.getElem?_take_of_lt h1] at hk
   exact hh k h1 u hk
 · rw [List.getElem?_append_right (by omega),htl] at hk
   by_cases h2:k < (i + 1)
   · have := World.cell?_setCells_in g (strC1 x) (off + i) (w.setCells g (off + (i + 1)) (strC (l.drop i))) (fun t ht => by
       rw [Nat.add_assoc]
       exact setCells_someS g _ _ w hS1 _ (hall _ (by omega))) (k - i) (by omega)
     rw [show off + i + (k - i)=off + k by omega] at this
     rw [List.getElem?_append_left (by omega)] at hk
     rw [this,←hk,List.getElem?_eq_getElem]
   · rw [List.getElem?_append_right (by omega),hxl] at hk
     rw [World.cell?_setCells_out _ _ _ _ _ (fun _ _=>.inr (by show _≤off + k;omega))]
     have:=World.cell?_setCells_in g (strC (l.drop i)) (off + (i + 1)) w hS1 (k - (i + 1)) (by omega)
     rw [show off + (i + 1) + (k - (i + 1))=off + k by omega] at this
     rw [this,←hk,show k - i - 1=k - (i + 1) by omega,List.getElem?_eq_getElem]
set_option maxRecDepth 100000 in
set_option maxHeartbeats 4000000 in
theorem sins_room (g off cap i n vb vc:Nat) (l:List ByteArray) (x:ByteArray) (w:World) (h:rowS w g off cap l) (hrow:∃ cs,w.heap[g]? = some (.cells cs 9 (0,0))∧cs.size=cap) (hn:n=l.length) (hi:i < n) (hroom:n + 1≤cap) (hm:cap≤9223372036854775807) (hvb:strBlk w vb x) (hne:vb≠g) :
   Calls Tryz.prog 125 #[.slice (some ⟨g,off,none⟩) n cap,.int .i64 (i:Int),.slice (some ⟨vb,0,none⟩) 1 vc] w (InsR w i g off cap l x):=by
 have hsh:w.shape? g=some (9,cap):=by obtain ⟨cs,h1,h2⟩:=hrow;simp [World.shape?,h1,h2]
 have hwrs:(Tryz.prog.info? 9).map (·.size)=some 1:=by kernel_rfl
 obtain ⟨q,hq⟩:∃ q,q=i + 1:=⟨_,rfl⟩
 obtain ⟨p,hp⟩:∃ p,p=n + 1:=⟨_,rfl⟩
 obtain ⟨xs,hxs⟩:∃ xs,xs=strC1 x:=⟨_,rfl⟩
 have hxl:xs.length=1:=by rw [hxs];rfl
 have hx1:∀ v∈xs,v.oneCell'=true:=by rw [hxs];exact strC_cell1 x
 have hvc:∀ j v,xs[j]? = some v→w.cell? ⟨vb,j,none⟩=some v:=fun j v hj=>by
   rw [cell_of_row _ _ j _ _ (0,0) hvb];rw [hxs] at hj;simpa using hj
 have hic:=sins_cells (w:=w.drew) (g:=g) (off:=off) (i:=i) (l:=l) (x:=x) (by omega) (fun j _ u hj=>h.drew.1 j u hj) (fun j hj=>(h.drew.2 j (by omega)).1)
 obtain ⟨ds,hds⟩:∃ ds,ds=strC (l.drop i):=⟨_,rfl⟩
 rw [←hds,←hxs,←hq] at hic
 have hdl:ds.length=(n - i):=by rw [hds,strC_len,List.length_drop,hn]
 have hov:∀ lb cb,(callFunc 151 #[.slice (some ⟨vb,0,none⟩) 1 vc,.slice (some ⟨g,off + q,none⟩) lb cb]).run Tryz.prog w=.ok (.value (.bool false)) w:=fun lb cb=>by
   rw [run_callFunc_extern Tryz.func151 (by kernel_rfl) (by kernel_rfl) (by kernel_rfl) (e:=Extern.SlicesOverlaps.overlaps #[103,103] #[4]) (by kernel_rfl),
     Lib.run_overlaps_apart w 103 4 9 Tryz.underlying103 1 (fun w=>by kernel_rfl) ⟨vb,0,none⟩ ⟨g,off + q,none⟩ 1 vc lb cb hne 9 9 1 (cap) (by unfold strBlk at hvb;simp [World.shape?,hvb,strC1]) hsh (by omega) (by unfold strBlk at hvb;simp [World.frozen?,hvb]) (by unfold strBlk at hvb;simp [World.frozen?,hvb])]
   rfl
 have hcp1:∀ ty dc sc,(Builtin.copy_ #[103,103] ty #[.slice (some ⟨g,off + q,none⟩) (p - q) dc,.slice (some ⟨g,off + i,none⟩) (p - i) sc]).run Tryz.prog w.drew=.ok (goInt (Nat.min (p - i) (p - q))) (w.drew.setCells g (off + q) ds):=fun ty dc sc =>
   run_copyS w.drew _ _ ty 9 1 g (off + q) (p - q) dc ⟨g,off + i,none⟩ (p - i) sc ds Tryz.underlying103 hwrs (by rw [hdl];simp only [Nat.min_def];split <;> omega)
     (fun j v hj=>by rw [Addr.add_lit,Nat.add_assoc];refine h.drew.1 _ v ?_;rw [hds,strC_drop,List.getElem?_drop] at hj;exact hj)
     (fun j hj=>by rw [Nat.add_assoc];exact (h.drew.2 _ (by omega)).1) (fun j hj=>by rw [Nat.add_assoc];exact (h.drew.2 _ (by omega)).2) (fun v hv=>by rw [hds] at hv;exact strC_cell _ v hv)
 obtain ⟨W1,hW1⟩:∃ W1,W1=w.drew.setCells g (off + q) ds:=⟨_,rfl⟩
 have hsp1:∀ k,k < cap→(W1.cell? ⟨g,off + k,none⟩).isSome=true:=fun k hk=>by
   rw [hW1]
   exact setCells_someS g _ _ _ (fun j hj=>by rw [Nat.add_assoc];exact (h.drew.2 _ (by omega)).1) _ (h.drew.2 k hk).1
 have hcp2:∀ ty dc,(Builtin.copy_ #[103,103] ty #[.slice (some ⟨g,off + i,none⟩) (p - i) dc,.slice (some ⟨vb,0,none⟩) 1 vc]).run Tryz.prog W1=.ok (goInt (Nat.min 1 (p - i))) (W1.setCells g (off + i) xs):=fun ty dc =>
   run_copyS W1 _ _ ty 9 1 g (off + i) (p - i) dc ⟨vb,0,none⟩ 1 vc xs Tryz.underlying103 hwrs (by rw [hxl];simp only [Nat.min_def];split <;> omega)
     (fun j v hj=>by
       rw [Addr.add_lit,hW1,World.cell?_setCells_out g _ _ _ _ (fun h _=>absurd h hne),Nat.zero_add]
       exact hvc j v hj)
     (fun j hj=>by rw [Nat.add_assoc];exact hsp1 _ (by omega)) (fun j hj=>by rw [hW1,World.frozen?_setCells,Nat.add_assoc];exact (h.drew.2 _ (by omega)).2) hx1
 rw [←hW1] at hcp1 hic
 have hg1:w.grownBy W1 (some g):=by rw [hW1];exact grown_setCells ds (off + q) _ (grown_drew ⟨rfl,rfl,rfl,Nat.le_refl _,fun _ _ _=>rfl⟩)
 have HG:=Lib.hid (grown_setCells xs (off + i) _ hg1)
 have HR:Hid (∃ cs,(W1.setCells g (off + i) xs).heap[g]? = some (.cells cs 9 (0,0))∧cs.size=cap):=by
   obtain ⟨cs,h1,h2⟩:=hrow
   obtain ⟨cs2,h3,h4⟩:=setCells_row (T:=9) ds (off + q) w.drew cs h1
   rw [←hW1] at h3
   obtain ⟨cs3,h5,h6⟩:=setCells_row xs (off + i) W1 cs2 h3
   exact Lib.hid ⟨cs3,h5,by rw [h6,h4,h2]⟩
 have HIC:=Lib.hid hic
 have HN:=Lib.hid hn
 have HP:=Lib.hid hp
 have hin:i≤n:=by omega
 have hz2:¬ ((i:Int)=(n:Int)):=by omega
 have hz3:((i:Int) == (n:Int))=false:=by simp;omega
 have w1:IntKind.i64.wrap ((i:Int) + 1)=(q:Int):=by rw [show (i:Int) + 1=(q:Int) by omega];exact IntWalk.i64_in _ (by omega)
 have w2:(i:Int) + 1=(q:Int):=by omega
 have w3:IntKind.i64.wrap (q:Int)=(q:Int):=IntWalk.i64_in _ (by omega)
 have w4:IntKind.i64.wrap ((n:Int) + 1)=(p:Int):=by rw [show (n:Int) + 1=(p:Int) by omega];exact IntWalk.i64_in _ (by omega)
 have w5:(n:Int) + 1=(p:Int):=by omega
 have w6:IntKind.i64.wrap (p:Int)=(p:Int):=IntWalk.i64_in _ (by omega)
 have hpc:p≤cap:=by omega
 have hpc2:¬ (cap:Int) < (p:Int):=by omega
 have hpc3:decide ((cap:Int) < (p:Int))=false:=by simp;omega
 have hqp:q≤p:=by omega
 have hip:i≤p:=by omega
 have hcq:¬ cap=q:=by omega
 have hci:¬ cap=i:=by omega
 have hqc:q≤cap:=by omega
 have hicc:i≤cap:=by omega
 clear hwrs hxs hxl hx1 hvc hic hds hdl hW1 hsp1 hg1 hrow hn hp hq h hsh hvb hne hroom
 go_enter Tryz.func125,Tryz.ntmps125
 go_wp2_with (simp only [hov])
 go_region_law (refine step_copy_runS rfl _ _ 103 103 rfl _ _ (by simp [Act.eval,Act.put]) (by simp [Act.eval,Act.put]) (hcp1 _ _ _) ?_)
 go_wp2_with (at_builtin;refine wpList_copy_runS _ rfl _ _ 103 103 rfl _ _ rfl rfl (hcp2 _ _) ?_)
 go_ret
 exact ⟨by rw [←HN.out,←HP.out];rfl,HR.out,HIC.out,HG.out⟩
theorem sins_cells2 {w:World} {g i:Nat} {l:List ByteArray} {x:ByteArray} (hi:i≤l.length) (hh:∀ j,j < i→∀ u,(strC l)[j]? = some u→w.cell? ⟨g,j,none⟩=some u) (hall:∀ j,j < (l.length + 1)→(w.cell? ⟨g,j,none⟩).isSome=true) :
   ∀ k u,(strC (l.take i ++ x :: l.drop i))[k]? = some u→((w.setCells g (i) (strC1 x)).drew.setCells g ((i + 1)) (strC (l.drop i))).cell? ⟨g,k,none⟩=some u:=by
 obtain ⟨xs,hxs⟩:∃ xs,xs=strC1 x:=⟨_,rfl⟩
 have hxl:xs.length=1:=by rw [hxs];rfl
 have hca:strC (l.take i ++ x :: l.drop i)=strC (l.take i) ++ (xs ++ strC (l.drop i)):=by rw [strC_app,hxs];simp [strC]
 rw [←hxs,hca]
 intro k u hk
 have hdl:(strC (l.drop i)).length=(l.length - i):=by rw [strC_len,List.length_drop]
 have htl:(strC (l.take i)).length=i:=by rw [strC_len,List.length_take];omega
 have hkl:k < (l.length + 1):=by
   have:=(List.getElem?_eq_some_iff.1 hk).1
   rw [List.length_append,List.length_append,htl,hxl,hdl] at this
   omega
 have hS1:∀ j,j < xs.length→(w.cell? ⟨g,i + j,none⟩).isSome=true:=fun j hj=>hall _ (by omega)
 have hdr:∀ a:Addr,(w.setCells g (i) xs).drew.cell? a=(w.setCells g (i) xs).cell? a:=fun a=>rfl
 clear hca hxs
 by_cases h1:k < i
 · rw [World.cell?_setCells_out _ _ _ _ _ (fun _ _=>.inl (by show k < _;omega)),hdr,World.cell?_setCells_out _ _ _ _ _ (fun _ _=>.inl (by show k < _;omega))]
   rw [List.getElem?_append_left (by omega),strC_take,List.getElem?_take_of_lt h1] at hk
   exact hh k h1 u hk
 · rw [List.getElem?_append_right (by omega),htl] at hk
   by_cases h2:k < (i + 1)
   · rw [World.cell?_setCells_out _ _ _ _ _ (fun _ _=>.inl (by show k < _;omega)),hdr]
     have:=World.cell?_setCells_in g xs (i) w hS1 (k - i) (by omega)
     rw [show i + (k - i)=k by omega] at this
     rw [List.getElem?_append_left (by omega)] at hk
     rw [this,←hk,List.getElem?_eq_getElem]
   · rw [List.getElem?_append_right (by omega),hxl] at hk
     have:=World.cell?_setCells_in g (strC (l.drop i)) ((i + 1)) (w.setCells g (i) xs).drew (fun t ht=>by
       rw [hdr];exact setCells_someS g _ _ w hS1 _ (hall _ (by omega))) (k - (i + 1)) (by omega)
     rw [show (i + 1) + (k - (i + 1))=k by omega] at this
     rw [this,←hk,show k - i - 1=k - (i + 1) by omega,List.getElem?_eq_getElem]
set_option maxRecDepth 100000 in
set_option maxHeartbeats 4000000 in
theorem sins_grow (g off cap i n vb vc:Nat) (l:List ByteArray) (x:ByteArray) (w:World) (h:rowS w g off cap l) (hn:n=l.length) (hi:i < n) (hnc:n≤cap) (hroom:cap < n + 1) (hm:n≤1000000) (hvb:strBlk w vb x) (hgs:g < w.heap.size) :
   Calls Tryz.prog 125 #[.slice (some ⟨g,off,none⟩) n cap,.int .i64 (i:Int),.slice (some ⟨vb,0,none⟩) 1 vc] w (InsG w i l x):=by
 obtain ⟨i0,hi0,hz0,hzs,hzb⟩:=info_parts info_str
 have hwrs:(Tryz.prog.info? 9).map (·.size)=some 1:=by kernel_rfl
 obtain ⟨q,hq⟩:∃ q,q=i + 1:=⟨_,rfl⟩
 obtain ⟨p,hp⟩:∃ p,p=n + 1:=⟨_,rfl⟩
 obtain ⟨xs,hxs⟩:∃ xs,xs=strC1 x:=⟨_,rfl⟩
 have hxl:xs.length=1:=by rw [hxs];rfl
 have hx1:∀ v∈xs,v.oneCell'=true:=by rw [hxs];exact strC_cell1 x
 have hvs:vb < w.heap.size:=(Array.getElem?_eq_some_iff.1 hvb).1
 have hvc:∀ j v,xs[j]? = some v→w.cell? ⟨vb,j,none⟩=some v:=fun j v hj=>by
   rw [cell_of_row _ _ j _ _ (0,0) hvb];rw [hxs] at hj;simpa using hj
 obtain ⟨olds,hos⟩:∃ o,o=strC (l.take i):=⟨_,rfl⟩
 have hol:olds.length=i:=by rw [hos,strC_len,List.length_take];omega
 obtain ⟨ds,hds⟩:∃ ds,ds=strC (l.drop i):=⟨_,rfl⟩
 have hdl:ds.length=(n - i):=by rw [hds,strC_len,List.length_drop,hn]
 have hold:(Builtin.firstCells i0.size i (.slice (some ⟨g,off,none⟩) i cap)).run Tryz.prog w.drew=.ok olds.toArray w.drew:=by
   rw [hzs]
   refine run_firstCells_some w.drew 1 i ⟨g,off,none⟩ i cap olds (by omega) (fun j v hj=>?_)
   rw [Addr.add_lit]
   refine h.drew.1 j v ?_
   rw [hos,strC_take,List.getElem?_take] at hj
   split at hj
   · exact hj
   · cases hj
 have hkk:(p:Int) - (i:Int)=((p - i:Nat):Int):=by omega
 have hik:i + (p - i)=p:=by omega
 have hrz0 : ∀ ty, (Builtin.append_ #[103, 3] ty #[.slice (some ⟨g, off, none⟩) i cap, .int .i64 ((p : Int) - (i : Int))]).run Tryz.prog w =
     .ok (.slice (some ⟨w.heap.size,0,none⟩) p (grownCap w p cap 9)) (w.drew.alloc (.cells (olds.toArray ++ Builtin.zeroCells (Value.string ⟨#[]⟩).cells (p - i) ++ Builtin.zeroCells (Value.string ⟨#[]⟩).cells (grownCap w p cap 9 - p)) 9)):=fun ty=>by
   have hx:=Lib.run_append_grow_zeros w 103 3 ty 9 i0 _ .i64 .i64 Tryz.underlying103 Tryz.underlying3 hi0 hz0 (some ⟨g,off,none⟩) i cap olds hold (p - i) (by omega) (by omega) (by omega) (by omega) (by rw [hzb];omega) (by rw [hzb,hik];exact growslice_fits (by omega) (by omega))
   rw [hik] at hx
   rw [hkk]
   exact hx
 have hGn:p≤grownCap w p cap 9:=grownCap_ge w _ _ _
 have hG63:grownCap w p cap 9≤9223372036854775807:=by
   have:=grownCap_le_maxLen w p cap 9 (by unfold maxLen;omega)
   unfold maxLen at this
   omega
 obtain ⟨G,hG⟩:∃ G,G=grownCap w p cap 9:=⟨_,rfl⟩
 rw [←hG] at hrz0 hGn hG63
 obtain ⟨ROW,hROW⟩:∃ ROW:Array Value,ROW=olds.toArray ++ Builtin.zeroCells (Value.string ⟨#[]⟩).cells (p - i) ++ Builtin.zeroCells (Value.string ⟨#[]⟩).cells (G - p):=⟨_,rfl⟩
 rw [←hROW] at hrz0
 have hRl:p≤ROW.size:=by
   rw [hROW]
   simp [Builtin.zeroCells,Value.cells,hol]
   omega
 obtain ⟨H,hH⟩:∃ H,H=w.heap.size:=⟨_,rfl⟩
 rw [←hH] at hrz0
 obtain ⟨W1,hW1⟩:∃ W1,W1=w.drew.alloc (.cells ROW 9):=⟨_,rfl⟩
 have hrz:∀ ty,(Builtin.append_ #[103,3] ty #[.slice (some ⟨g,off,none⟩) i cap,.int .i64 ((p:Int) - (i:Int))]).run Tryz.prog w=.ok (.slice (some ⟨H,0,none⟩) p G) W1:=fun ty=>by rw [hrz0,hW1]
 have hc1:∀ j,W1.cell? ⟨H,j,none⟩=ROW[j]? := fun j=>by
   rw [hW1,hH]
   have e:=World.cell?_alloc_at (w:=w.drew) ROW 9 w.heap.size j rfl
   exact e
 have hN:∀ j,j < p→(W1.cell? ⟨H,j,none⟩).isSome=true:=fun j hj=>by
   rw [hc1,Array.getElem?_eq_getElem (by omega)];rfl
 have hNf:∀ j,W1.frozen? ⟨H,j,none⟩=false:=fun j=>by rw [hW1,hH];exact World.frozen?_alloc_at (w:=w.drew) ROW _ w.heap.size j rfl
 have hO:∀ B j v,B < w.heap.size→w.cell? ⟨B,j,none⟩=some v→W1.cell? ⟨B,j,none⟩=some v:=fun B j v hB hv=>by rw [hW1,World.cell?_alloc_past (w:=w.drew) _ B j hB];exact hv
 have hcpA:∀ ty dc,(Builtin.copy_ #[103,103] ty #[.slice (some ⟨H,i,none⟩) (p - i) dc,.slice (some ⟨vb,0,none⟩) 1 vc]).run Tryz.prog W1=.ok (goInt (Nat.min 1 (p - i))) (W1.setCells H (i) xs):=fun ty dc =>
   run_copyS W1 _ _ ty 9 1 H (i) (p - i) dc ⟨vb,0,none⟩ 1 vc xs Tryz.underlying103 hwrs (by rw [hxl];simp only [Nat.min_def];split <;> omega)
     (fun j v hj=>by rw [Addr.add_lit,Nat.zero_add];exact hO _ _ v hvs (hvc j v hj)) (fun j hj=>hN _ (by omega)) (fun j hj=>hNf _) hx1
 obtain ⟨W2,hW2⟩:∃ W2,W2=W1.setCells H (i) xs:=⟨_,rfl⟩
 rw [←hW2] at hcpA
 have hN2:∀ j,j < p→(W2.drew.cell? ⟨H,j,none⟩).isSome=true:=fun j hj=>by
   show (W2.cell? _).isSome=true
   rw [hW2];exact setCells_someS H _ _ W1 (fun t ht=>hN _ (by omega)) _ (hN j hj)
 have hcpB:∀ ty dc sc,(Builtin.copy_ #[103,103] ty #[.slice (some ⟨H,q,none⟩) (p - q) dc,.slice (some ⟨g,off + i,none⟩) (n - i) sc]).run Tryz.prog W2.drew=.ok (goInt (Nat.min (n - i) (p - q))) (W2.drew.setCells H (q) ds):=fun ty dc sc =>
   run_copyS W2.drew _ _ ty 9 1 H (q) (p - q) dc ⟨g,off + i,none⟩ (n - i) sc ds Tryz.underlying103 hwrs (by rw [hdl];simp only [Nat.min_def];split <;> omega)
     (fun j v hj=>by
       rw [Addr.add_lit,Nat.add_assoc]
       show W2.cell? _=_
       rw [hW2,World.cell?_setCells_out H _ _ _ _ (fun e _=>absurd e (by show g≠H;omega))]
       refine hO _ _ v hgs (h.1 _ v ?_)
       rw [hds,strC_drop,List.getElem?_drop] at hj;exact hj)
     (fun j hj=>hN2 _ (by omega)) (fun j hj=>by show W2.frozen? _=false;rw [hW2,World.frozen?_setCells];exact hNf _) (fun v hv=>by rw [hds] at hv;exact strC_cell _ v hv)
 have hic := sins_cells2 (w := W1) (g := H) (i := i) (l := l) (x := x) (by omega) (fun j hj u hu => by
     rw [hc1,hROW,Array.append_assoc,Array.getElem?_append_left (by simp [hol];omega)]
     rw [←hu,hos,strC_take]
     simp only [List.getElem?_toArray]
     rw [List.getElem?_take_of_lt hj]) (fun j hj=>hN j (by rw [hp,hn];exact hj))
 rw [←hxs,←hW2,←hds,←hq] at hic
 have hb1:w.grownBy W1 none:=by rw [hW1];exact (grown_drew ⟨rfl,rfl,rfl,Nat.le_refl _,fun _ _ _=>rfl⟩:w.grownBy w.drew none).trans (World.grownBy_alloc _ _ _)
 have hz1:W1.heap.size=w.heap.size + 1:=by rw [hW1];simp
 have hz2:W2.drew.heap.size=w.heap.size + 1:=by show W2.heap.size=_;rw [hW2,size_setCells,hz1]
 have hb2:∀ k,k < w.heap.size→(W2.drew.setCells H q ds).heap[k]? = w.heap[k]? := fun k hk=>by
   rw [World.heap_setCells_other _ _ _ _ (by omega) (by omega)]
   show W2.heap[k]? = _
   rw [hW2,World.heap_setCells_other _ _ _ _ (by omega) (by omega)]
   exact hb1.block k hk (by simp)
 have HG:Hid (w.grownBy (W2.drew.setCells H q ds) none):=by
   have g1:W1.grownBy (W2.drew.setCells H q ds) (some H):=by
     refine grown_setCells ds q _ (grown_drew ?_)
     rw [hW2]
     exact grown_setCells xs i _ ⟨rfl,rfl,rfl,Nat.le_refl _,fun _ _ _=>rfl⟩
   exact Lib.hid ⟨g1.os.trans hb1.os,g1.tape.trans hb1.tape,g1.output.trans hb1.output,Nat.le_trans hb1.size g1.size,fun k hk _=>hb2 k hk⟩
 have HR:Hid (∃ cs,(W2.drew.setCells H q ds).heap[H]? = some (.cells cs 9 (0,0))∧cs.size=G):=by
   have h1:W1.heap[H]? = some (.cells ROW 9 (0,0)):=by rw [hW1,hH];exact (MapKept.heap_alloc w.drew _).1
   obtain ⟨cs2,h3,h4⟩:=setCells_row xs i W1 ROW h1
   rw [←hW2] at h3
   obtain ⟨cs3,h5,h6⟩:=setCells_row (T:=9) ds q W2.drew cs2 h3
   exact Lib.hid ⟨cs3,h5,by rw [h6,h4,hROW];simp [Builtin.zeroCells,Value.cells];omega⟩
 have HIC:Hid (∀ k u,(strC (l.take i ++ x :: l.drop i))[k]? = some u→(W2.drew.setCells H q ds).cell? ⟨H,k,none⟩=some u):=Lib.hid hic
 have HN:=Lib.hid hn
 have HP:=Lib.hid hp
 have HGN:=Lib.hid hGn
 have hin:i≤n:=by omega
 have hz2:¬ ((i:Int)=(n:Int)):=by omega
 have hz3:((i:Int) == (n:Int))=false:=by simp;omega
 have w1:IntKind.i64.wrap ((i:Int) + 1)=(q:Int):=by rw [show (i:Int) + 1=(q:Int) by omega];exact IntWalk.i64_in _ (by omega)
 have w2:(i:Int) + 1=(q:Int):=by omega
 have w3:IntKind.i64.wrap (q:Int)=(q:Int):=IntWalk.i64_in _ (by omega)
 have w4:IntKind.i64.wrap ((n:Int) + 1)=(p:Int):=by rw [show (n:Int) + 1=(p:Int) by omega];exact IntWalk.i64_in _ (by omega)
 have w5:(n:Int) + 1=(p:Int):=by omega
 have w6:IntKind.i64.wrap (p:Int)=(p:Int):=IntWalk.i64_in _ (by omega)
 have w7:IntKind.i64.wrap ((p:Int) - (i:Int))=(p:Int) - (i:Int):=IntWalk.i64_in _ (by omega)
 have hpc2:(cap:Int) < (p:Int):=by omega
 have hpc3:decide ((cap:Int) < (p:Int))=true:=by simp;omega
 have hqp:q≤p:=by omega
 have hip:i≤p:=by omega
 have hGq:¬ G=q:=by omega
 have hGi:¬ G=i:=by omega
 have hci:¬ cap=i:=by omega
 have hicc:i≤cap:=by omega
 have hiG:i≤G:=by omega
 have hqG:q≤G:=by omega
 have HH:=Lib.hid hH
 have HG63:=Lib.hid hG63
 clear hH hi0 hz0 hzs hzb hwrs hxs hxl hx1 hvc hvs hos hol hds hdl hold hkk hik hrz0 hG hROW hRl hW1 hc1 hN hNf hO hW2 hN2 hic hb1 hb2 hz1 hz2 hn hp hq h hvb hgs hroom
 go_enter Tryz.func125,Tryz.ntmps125
 go_wp2_with (first
   | (at_builtin;refine Lib.wpList_append_run _ rfl _ _ _ _ rfl _ _ rfl rfl _ _ (hrz _) ?_)
   | (at_builtin;refine wpList_copy_runS _ rfl _ _ 103 103 rfl _ _ rfl rfl (hcpA _ _) ?_))
 go_region_law (refine step_copy_runS rfl _ _ 103 103 rfl _ _ (by simp [Act.eval,Act.put]) (by simp [Act.eval,Act.put]) (hcpB _ _ _) ?_)
 go_wp2
 go_ret
 have e0:=HH.out
 subst e0
 exact ⟨G,by rw [←HN.out,←HP.out];rfl,by have:=HN.out;have:=HP.out;have:=HGN.out;omega,by have:=HG63.out;unfold maxLen;omega,HR.out,HIC.out,HG.out⟩
end Go.Proofs.YtddbpnplbcjpgaaGreatDoor
