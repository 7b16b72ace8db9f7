import Derived.Test.YtgfinhehgfbdgaaGreatDoorKa02
import Derived.Test.YtgfinhehgfbdgaaGreatDoorProg
import Derived.WalkKit
import Derived.Handy
import Derived.Lib.Hide
import Derived.BigQuiet
import Derived.Deep.QuietTactic
import Derived.WalkSmall
import Derived.IntWalk
import Derived.Outline
import Derived.Test.YtgfinhehgfbdgaaGreatDoorKa00
import Derived.KernelRfl
import Derived.Below
import Derived.Deep.AppendLies
import Derived.Laws.OwnMore
import Derived.Deep.Draws
import Derived.StringKeys
namespace Go.Proofs.YtgfinhehgfbdgaaGreatDoor
open Go.RowKit
theorem getB (s:ByteArray) (j:Nat) (h:j < s.size):s.data.toList.getD j 0=s[j]:=by
 have hl:j < s.data.size:=h
 rw [List.getD_eq_getElem?_getD,Array.getElem?_toList,Array.getElem?_eq_getElem hl];rfl
theorem drewq (w:World) (q n:Nat):∃ k,(w.drewN q).drewN n=w.drewN k:=⟨_,World.drewN_drewN _ _ _⟩
theorem u8_ne (x y:UInt8):((x.toNat:Int) != (y.toNat:Int))=!decide (x=y):=by
 by_cases h:x=y
 · subst h;simp
 · have h2:x.toNat≠y.toNat:=fun e=>h (UInt8.toNat_inj.1 e)
   simp [h];omega
set_option maxRecDepth 100000 in
set_option maxHeartbeats 1000000 in
theorem same_any (s:ByteArray) (a b m:Nat) (w:World) (hs:s.size≤maxLen) (hb:b≤a) (hm:a + m≤s.size) :
   Calls Tryz.prog 174 #[.string s,.int .i64 a,.int .i64 b,.int .i64 m] w fun e w'=>e=.returned (.int .i64 (sm s.data.toList a b m:Nat))∧∃ q,w'=w.drewN q:=by
 unfold maxLen at hs
 go_enter Tryz.func174,Tryz.ntmps174
 go_wp2
 go_loopw [11] (fun i wr=>∃ k q:Nat,k≤m∧i=.int .i64 k∧wr=w.drewN q∧∀ j,j < k→s.data.toList.getD (a + j) 0=s.data.toList.getD (a + j - b) 0) (fun i _=>m - (intOf i).toNat)
 case atStart=>exact ⟨0,0,by omega,rfl,rfl,fun j h=>by omega⟩
 case round =>
   obtain ⟨k,q,hk,rfl,rfl,hall⟩:=hrel
   have HA:=Lib.hid hall
   clear hall
   by_cases hlt:k < m
   · obtain ⟨p,hp⟩:∃ p,p=a + k:=⟨_,rfl⟩
     obtain ⟨r,hr⟩:∃ r,r=a + k - b:=⟨_,rfl⟩
     have hpl:p < s.size:=by omega
     have hrl:r < s.size:=by omega
     have h1:IntKind.i64.wrap ((a:Int) + (k:Int))=(p:Int):=by rw [IntWalk.i64_in _ (by omega)];omega
     have h2:IntKind.i64.wrap ((p:Int) - (b:Int))=(r:Int):=by rw [IntWalk.i64_in _ (by omega)];omega
     have HP:=Lib.hid hp
     have HR:=Lib.hid hr
     clear hp hr
     by_cases heq:s[p]=s[r]
     · have hq:((s[p].toNat:Int) != (s[r].toNat:Int))=false:=by rw [u8_ne];simp [heq]
       have HN:Hid (∀ j,j < k + 1→s.data.toList.getD (a + j) 0=s.data.toList.getD (a + j - b) 0):=by
         intro j hj
         by_cases e:j=k
         · rw [e,←HR.out,←HP.out,getB _ _ hpl,getB _ _ hrl];exact heq
         · exact HA.out j (by omega)
       clear heq
       go_wp2
       go_quiet (fail)
       clear h1 h2
       go_wp2
       go_roundw
       case rel=>exact ⟨k + 1,_,by omega,by go_num,rfl,HN.out⟩
       case measure=>simp [intOf];omega
     · have hq:((s[p].toNat:Int) != (s[r].toNat:Int))=true:=by rw [u8_ne];simp [heq]
       have HN:Hid (sm s.data.toList a b m=k):=by
         refine sm_eq ⟨by omega,HA.out,fun _=>?_⟩
         rw [←HR.out,←HP.out,getB _ _ hpl,getB _ _ hrl];exact heq
       clear heq
       go_wp2
       go_quiet (fail)
       clear h1 h2
       go_wp2
       go_ret
       exact ⟨by rw [HN.out];rfl,drewq _ _ _⟩
   · have HN : Hid (sm s.data.toList a b m = m) := by
       refine sm_eq ⟨Nat.le_refl _,fun j hj=>HA.out j (by omega),fun h=>absurd h (Nat.lt_irrefl _)⟩
     go_wp2
     go_ret
     exact ⟨by rw [HN.out];rfl,_,rfl⟩
theorem same_at (s:ByteArray) (a b m:Nat) (B:Int) (w:World) (hs:s.size≤maxLen) (hB:B=(b:Int)) (hb:b≤a) (hm:a + m≤s.size) :
   Calls Tryz.prog 174 #[.string s,.int .i64 a,.int .i64 B,.int .i64 m] w fun e w'=>e=.returned (.int .i64 (sm s.data.toList a b m:Nat))∧∃ q,w'=w.drewN q:=by
 subst hB;exact same_any s a b m w hs hb hm
end Go.Proofs.YtgfinhehgfbdgaaGreatDoor
namespace Go.Proofs.YtgfinhehgfbdgaaGreatDoor
open Go.RowKit
theorem info_wr:(Tryz.prog.info? 61).map (fun i=>(i.zero,i.size,i.bytes))=some (some (.agg #[.int .i64 0,.int .i64 0,.int .i64 0,.string ⟨#[]⟩,.string ⟨#[]⟩,.int .i64 0]),6,64):=by kernel_rfl
instance : Inhabited Wr:=⟨⟨0,0,0,⟨#[]⟩,⟨#[]⟩,0⟩⟩
def wrsC (l:List Wr):List Value:=l.flatMap wrC
theorem wrsC_len (l:List Wr):(wrsC l).length=l.length * 6:=by
 induction l with
 | nil=>rfl
 | cons t r ih=>simp only [wrsC,List.flatMap_cons,List.length_append,List.length_cons] at ih ⊢;rw [ih];simp [wrC];omega
theorem wrsC_app (a b:List Wr):wrsC (a ++ b)=wrsC a ++ wrsC b:=by simp [wrsC]
theorem wrsC_one (a:Wr):wrsC [a]=wrC a:=by simp [wrsC]
theorem wrsC_at (l:List Wr) (i j:Nat) (t:Wr) (h:l[i]? = some t) (hj:j < 6):(wrsC l)[i * 6 + j]? = (wrC t)[j]? := by
 induction l generalizing i with
 | nil=>simp at h
 | cons u r ih =>
   have hc:wrsC (u :: r)=wrC u ++ wrsC r:=by simp [wrsC]
   have h3:(wrC u).length=6:=rfl
   rw [hc]
   cases i with
   | zero =>
     obtain rfl:u=t:=by simpa using h
     rw [List.getElem?_append_left (by omega)]
     congr 1;omega
   | succ i =>
     rw [List.getElem?_append_right (by omega),h3,show (i + 1) * 6 + j - 6=i * 6 + j by omega]
     exact ih i (by simpa using h)
theorem wrC_cell (t:Wr):∀ u∈wrC t,u.oneCell'=true:=by
 intro u hu
 simp [wrC] at hu
 rcases hu with rfl | rfl | rfl | rfl | rfl | rfl <;> rfl
def ownsW (w:World) (base:Nat) (v:Value) (l:List Wr):Prop:=w.ownsRow base 61 6 v l.length (wrsC l)
theorem ownsW_nil (w:World) (base:Nat):ownsW w base (.slice none 0 0) []:=World.ownsRow_nil _ _ _ _
theorem ownsW.alloc {w:World} {base:Nat} {v:Value} {l:List Wr} (h:ownsW w base v l) (o:Obj):ownsW (w.alloc o) base v l:=World.ownsRow.alloc h o
theorem ownsW.drew {w:World} {base:Nat} {v:Value} {l:List Wr} (h:ownsW w base v l):ownsW w.drew base v l:=World.ownsRow.drew h
theorem ownsW.drewN {w:World} {base:Nat} {v:Value} {l:List Wr} (h:ownsW w base v l) (n:Nat):ownsW (w.drewN n) base v l:=h
theorem ownsW.lt {w:World} {base:Nat} {v:Value} {l:List Wr} (h:ownsW w base v l):∀ k,v.ownBlock=some k→base≤k∧k < w.heap.size:=World.ownsRow.lt h
theorem ownsW.mono {w:World} {base base':Nat} {v:Value} {l:List Wr} (h:ownsW w base v l) (hb:base'≤base):ownsW w base' v l:=by
 obtain ⟨h0,h1⟩:=h
 refine ⟨h0,?_⟩
 rcases h1 with h1 | ⟨g,cap,cur,hv,hg,r⟩
 · exact .inl h1
 · exact .inr ⟨g,cap,cur,hv,Nat.le_trans hb hg,r⟩
theorem ownsW.below {w w':World} {base:Nat} {v:Value} {l:List Wr} (h:ownsW w base v l) (hb:Below w.heap.size w w'):ownsW w' base v l:=by
 refine World.ownsRow.kept h (row:=none) ⟨hb.os,hb.tape,hb.output,hb.size,fun k hk _=>hb.block k hk⟩ ?_
 cases hv:v.ownBlock with
 | none=>exact .inl rfl
 | some g=>exact .inr (by simp)
def IsWrs (w:World) (v:Value) (l:List Wr):Prop :=
 (∃ a c,v=.slice a 0 c∧l=[])∨∃ b off c,v=.slice (some ⟨b,off,none⟩) l.length c∧(0 < l.length∧l.length≤c)∧b < w.heap.size∧∀ j u,(wrsC l)[j]? = some u→w.cell? ⟨b,off + j,none⟩=some u
theorem ownsW.is {w:World} {base:Nat} {v:Value} {l:List Wr} (h:ownsW w base v l):IsWrs w v l:=by
 have hall:=h
 have hlt:=h.lt
 obtain ⟨h0,h1⟩:=h
 rcases h1 with ⟨rfl,hn⟩ | ⟨g,cap,cur,rfl,hb,hh,hc,hm,hs,ht⟩
 · exact .inl ⟨_,_,rfl,List.length_eq_zero_iff.1 hn⟩
 · by_cases hz:l.length=0
   · exact .inl ⟨_,_,by rw [hz],List.length_eq_zero_iff.1 hz⟩
   · refine .inr ⟨g,0,cap,rfl,⟨by omega,hc⟩,(hlt g rfl).2,fun j u hj=>?_⟩
     have hjl:j < l.length * 6:=by rw [←wrsC_len];exact (List.getElem?_eq_some_iff.1 hj).1
     rw [Nat.zero_add,World.ownsRow.cellAt hall j hjl]
     exact hj
theorem IsWrs.nil (w:World):IsWrs w (.slice none 0 0) []:=.inl ⟨_,_,rfl,rfl⟩
theorem IsWrs.below {w w':World} {v:Value} {l:List Wr} (h:IsWrs w v l) (hb:Below w.heap.size w w'):IsWrs w' v l:=by
 rcases h with ⟨a,c,h1,h2⟩ | ⟨b,off,c,h1,h0,h2,h3⟩
 · exact .inl ⟨a,c,h1,h2⟩
 · exact .inr ⟨b,off,c,h1,h0,Nat.lt_of_lt_of_le h2 hb.size,fun j u hj=>(hb.cell (p:=⟨b,off + j,none⟩) h2).trans (h3 j u hj)⟩
theorem IsWrs.alloc {w:World} {v:Value} {l:List Wr} (h:IsWrs w v l) (o:Obj):IsWrs (w.alloc o) v l:=h.below ((Below.refl _ _).alloc (Nat.le_refl _) o)
theorem IsWrs.drewN {w:World} {v:Value} {l:List Wr} (h:IsWrs w v l) (n:Nat):IsWrs (w.drewN n) v l:=h
theorem IsWrs.form {w:World} {v:Value} {l:List Wr} (h:IsWrs w v l):∃ a c,v=.slice a l.length c∧∀ i t,l[i]? = some t→∃ b off,a=some ⟨b,off,none⟩∧b < w.heap.size ∧
   w.cell? ⟨b,off + i * 6,none⟩=some (.int .i64 t.time)∧w.cell? ⟨b,off + i * 6 + 1,none⟩=some (.int .i64 t.rep)∧w.cell? ⟨b,off + i * 6 + 2,none⟩=some (.int .i64 t.kind) ∧
   w.cell? ⟨b,off + i * 6 + 3,none⟩=some (.string t.key)∧w.cell? ⟨b,off + i * 6 + 4,none⟩=some (.string t.value)∧w.cell? ⟨b,off + i * 6 + 5,none⟩=some (.int .i64 t.n):=by
 rcases h with ⟨a,c,rfl,rfl⟩ | ⟨b,off,c,rfl,h0,h2,h3⟩
 · exact ⟨a,c,rfl,fun i t h=>by simp at h⟩
 · refine ⟨_,_,rfl,fun i t h=>⟨b,off,rfl,h2,?_,?_,?_,?_,?_,?_⟩⟩
   · exact h3 _ _ ((wrsC_at l i 0 t h (by omega)).trans rfl)
   · exact h3 _ _ ((wrsC_at l i 1 t h (by omega)).trans rfl)
   · exact h3 _ _ ((wrsC_at l i 2 t h (by omega)).trans rfl)
   · exact h3 _ _ ((wrsC_at l i 3 t h (by omega)).trans rfl)
   · exact h3 _ _ ((wrsC_at l i 4 t h (by omega)).trans rfl)
   · exact h3 _ _ ((wrsC_at l i 5 t h (by omega)).trans rfl)
def wrBlk (w:World) (B:Nat) (t:Wr):Prop:=w.heap[B]? = some (.cells (wrC t).toArray 61 (0,0))
theorem wrBlk_is {w:World} {B:Nat} {t:Wr} (h:wrBlk w B t):IsWrs w (.slice (some ⟨B,0,none⟩) 1 1) [t]:=by
 refine .inr ⟨B,0,1,rfl,⟨Nat.zero_lt_one,Nat.le_refl 1⟩,(Array.getElem?_eq_some_iff.1 h).1,fun j u hj=>?_⟩
 rw [Nat.zero_add,cell_of_row _ _ j _ _ (0,0) h]
 rw [wrsC_one] at hj
 simpa using hj
theorem wpList_append_wr {w:World} {ops:Array Oper} {rest:List Oper} {o:Oper} {a:Act} {Q:Exit→Act→World→Prop} (hgd:o.guard=none) (s x:Operand)
   (ho:o.op=.call { callee:=.builtin .append,args:=#[s,x],argTypes:=#[23,23] })
   (base:Nat) (v:Value) (l:List Wr) (hs:a.eval s=v) (hown:ownsW w base v l)
   (B c:Nat) (hx:a.eval x=.slice (some ⟨B,0,none⟩) 1 c) (t:Wr) (hcell:wrBlk w B t)
   (hlen:l.length + 1≤1000000) (hbase:base≤w.heap.size)
   (h:∀ g cap w',ownsW w' base (.slice (some ⟨g,0,none⟩) (l.length + 1) cap) (l ++ [t])→w.grownBy w' v.ownBlock→wpList Tryz.prog ops Q rest (a.put o.dst (.slice (some ⟨g,0,none⟩) (l.length + 1) cap)) w'):wpList Tryz.prog ops Q (o :: rest) a w:=by
 obtain ⟨i0,hi,hz0,hz1,hz2⟩:=info_parts info_wr
 refine wpList_append_lies w hgd s x 23 ho base 61 i0 (.agg #[.int .i64 0,.int .i64 0,.int .i64 0,.string ⟨#[]⟩,.string ⟨#[]⟩,.int .i64 0]) 6 64 Tryz.underlying23 hi hz0 hz1 hz2 rfl (by decide) v l.length (wrsC l) hs hown ⟨B,0,none⟩ 1 c (wrC t) hx rfl ?_ (wrC_cell t) (by decide) (by unfold maxLen;omega) (by omega) hbase _ rfl ?_
 · intro j u hj
   have hadd:(⟨B,0,none⟩:Addr).add j=⟨B,j,none⟩:=by unfold Addr.add;split <;> simp_all
   rw [hadd,cell_of_row _ _ _ _ _ _ hcell,←hj]
   simp
 · intro g cap w' h1 h2 _ _
   refine h g cap w' ?_ h2
   unfold ownsW
   rw [List.length_append,wrsC_app,wrsC_one]
   exact h1
end Go.Proofs.YtgfinhehgfbdgaaGreatDoor
namespace Go.Proofs.YtgfinhehgfbdgaaGreatDoor
open Go.RowKit
def IsTexts (w:World) (v:Value) (l:List ByteArray):Prop :=
 ∃ a cap,v=.slice a l.length cap∧l.length≤cap∧∀ k s,l[k]? = some s→∃ b off,a=some ⟨b,off,none⟩∧b < w.heap.size∧w.cell? ⟨b,off + k,none⟩=some (.string s)
def IsNums (w:World) (v:Value) (l:List Int):Prop :=
 ∃ a cap,v=.slice a l.length cap∧l.length≤cap∧∀ k n,l[k]? = some n→∃ b off,a=some ⟨b,off,none⟩∧b < w.heap.size∧w.cell? ⟨b,off + k,none⟩=some (.int .i64 n)
theorem IsTexts.below {w w':World} {v:Value} {l:List ByteArray} (h:IsTexts w v l) (hb:Below w.heap.size w w'):IsTexts w' v l:=by
 obtain ⟨a,cap,h1,h2,h3⟩:=h
 exact ⟨a,cap,h1,h2,fun k s hk=>by obtain ⟨b,off,e,hlt,hc⟩:=h3 k s hk;exact ⟨b,off,e,Nat.lt_of_lt_of_le hlt hb.size,(hb.cell hlt).trans hc⟩⟩
theorem IsNums.below {w w':World} {v:Value} {l:List Int} (h:IsNums w v l) (hb:Below w.heap.size w w'):IsNums w' v l:=by
 obtain ⟨a,cap,h1,h2,h3⟩:=h
 exact ⟨a,cap,h1,h2,fun k s hk=>by obtain ⟨b,off,e,hlt,hc⟩:=h3 k s hk;exact ⟨b,off,e,Nat.lt_of_lt_of_le hlt hb.size,(hb.cell hlt).trans hc⟩⟩
theorem IsTexts.alloc {w:World} {v:Value} {l:List ByteArray} (h:IsTexts w v l) (o:Obj):IsTexts (w.alloc o) v l:=h.below ((Below.refl _ _).alloc (Nat.le_refl _) _)
theorem IsNums.alloc {w:World} {v:Value} {l:List Int} (h:IsNums w v l) (o:Obj):IsNums (w.alloc o) v l:=h.below ((Below.refl _ _).alloc (Nat.le_refl _) _)
theorem IsTexts.drewN {w:World} {v:Value} {l:List ByteArray} (h:IsTexts w v l) (n:Nat):IsTexts (w.drewN n) v l:=h.below ⟨rfl,rfl,rfl,Nat.le_refl _,fun _ _=>rfl⟩
theorem IsNums.drewN {w:World} {v:Value} {l:List Int} (h:IsNums w v l) (n:Nat):IsNums (w.drewN n) v l:=h.below ⟨rfl,rfl,rfl,Nat.le_refl _,fun _ _=>rfl⟩
theorem IsTexts.drew {w:World} {v:Value} {l:List ByteArray} (h:IsTexts w v l):IsTexts w.drew v l:=h.below ((Below.refl _ _).drew)
theorem IsNums.drew {w:World} {v:Value} {l:List Int} (h:IsNums w v l):IsNums w.drew v l:=h.below ((Below.refl _ _).drew)
theorem isTexts_nil (w:World):IsTexts w (.slice none 0 0) []:=⟨none,0,rfl,Nat.le_refl _,fun k s h=>by simp at h⟩
theorem isNums_nil (w:World):IsNums w (.slice none 0 0) []:=⟨none,0,rfl,Nat.le_refl _,fun k s h=>by simp at h⟩
theorem IsTexts.take {w:World} {a:Option Addr} {cap:Nat} {l:List ByteArray} (h:IsTexts w (.slice a l.length cap) l) (i c:Nat) (hi:i≤l.length) (hc:i≤c):IsTexts w (.slice a i c) (l.take i):=by
 obtain ⟨a',cap',h1,h2,h3⟩:=h
 obtain ⟨rfl,_,rfl⟩:=Value.slice.inj h1
 refine ⟨a,c,by rw [List.length_take,Nat.min_eq_left hi],by rw [List.length_take];omega,fun k s hk=>?_⟩
 have hki:k < i:=by have:=(List.getElem?_eq_some_iff.1 hk).1;rw [List.length_take] at this;omega
 rw [List.getElem?_take_of_lt hki] at hk
 exact h3 k s hk
theorem ownsS.isTexts {w:World} {base:Nat} {v:Value} {l:List ByteArray} (h:ownsS w base v l):IsTexts w v l:=by
 rcases h.forms with ⟨rfl,rfl⟩ | ⟨g,cap,rfl,hb,hg,hc⟩
 · exact isTexts_nil w
 · have hcap : l.length ≤ cap := by
     rcases h.2 with ⟨e,_⟩ | ⟨_,_,_,e,_,_,hcl,_⟩
     · simp at e
     · obtain ⟨_,_,rfl⟩:=Value.slice.inj e;omega
   refine ⟨_,cap,rfl,hcap,fun k s hk=>⟨g,0,rfl,hg,?_⟩⟩
   obtain ⟨hkl,e⟩:=List.getElem?_eq_some_iff.1 hk
   have:=hc k hkl
   rw [Nat.zero_add,this]
   simp [List.getD_eq_getElem?_getD,hk]
theorem ownsN.isNums {w:World} {base:Nat} {v:Value} {l:List Nat} (h:ownsN w base v l):IsNums w v (l.map Int.ofNat):=by
 rcases h.forms with ⟨rfl,rfl⟩ | ⟨g,cap,rfl,hb,hg,hc⟩
 · exact isNums_nil w
 · have hcap : l.length ≤ cap := by
     rcases h.2 with ⟨e,_⟩ | ⟨_,_,_,e,_,_,hcl,_⟩
     · simp at e
     · obtain ⟨_,_,rfl⟩:=Value.slice.inj e;omega
   refine ⟨some ⟨g,0,none⟩,cap,by rw [List.length_map],by rw [List.length_map];exact hcap,fun k s hk=>⟨g,0,rfl,hg,?_⟩⟩
   rw [List.getElem?_map] at hk
   obtain ⟨n,hn,rfl⟩:=Option.map_eq_some_iff.1 hk
   have hkl:=(List.getElem?_eq_some_iff.1 hn).1
   have:=hc k hkl
   rw [Nat.zero_add,this]
   simp [List.getD_eq_getElem?_getD,hn]
theorem rows_apart {w:World} {base base':Nat} {e1 e2:TypeId} {k1 k2 n1 n2:Nat} {v1 v2:Value} {x1 x2:List Value} (h1:w.ownsRow base e1 k1 v1 n1 x1) (h2:w.ownsRow base' e2 k2 v2 n2 x2) (hne:e1≠e2) :
   v1.ownBlock=none∨v1.ownBlock≠v2.ownBlock:=by
 rcases h1.2 with ⟨rfl,_⟩ | ⟨g,cap,cur,rfl,_,hh,_⟩
 · exact .inl rfl
 · refine .inr ?_
   rcases h2.2 with ⟨rfl,_⟩ | ⟨g',cap',cur',rfl,_,hh',_⟩
   · simp [Value.ownBlock]
   · intro e
     have:g=g':=by simpa [Value.ownBlock] using e
     subst this
     rw [hh] at hh'
     injection hh' with hh'
     injection hh' with _ ht
     exact hne ht
theorem ownsS.off {w:World} {base b:Nat} {v:Value} {l:List ByteArray} (h:ownsS w base v l) (hb:b < base):v.ownBlock≠some b:=fun e=>by have:=(h.lt b e).1;omega
theorem ownsN.off {w:World} {base b:Nat} {v:Value} {l:List Nat} (h:ownsN w base v l) (hb:b < base):v.ownBlock≠some b:=fun e=>by have:=(h.lt b e).1;omega
theorem ownsS.mono {w:World} {base b:Nat} {v:Value} {l:List ByteArray} (h:ownsS w base v l) (hb:b≤base):ownsS w b v l:=by
 refine ⟨h.1,?_⟩
 rcases h.2 with h1 | ⟨g,cap,cur,e,h2,h3⟩
 · exact .inl h1
 · exact .inr ⟨g,cap,cur,e,Nat.le_trans hb h2,h3⟩
theorem ownsN.mono {w:World} {base b:Nat} {v:Value} {l:List Nat} (h:ownsN w base v l) (hb:b≤base):ownsN w b v l:=by
 refine ⟨h.1,?_⟩
 rcases h.2 with h1 | ⟨g,cap,cur,e,h2,h3⟩
 · exact .inl h1
 · exact .inr ⟨g,cap,cur,e,Nat.le_trans hb h2,h3⟩
end Go.Proofs.YtgfinhehgfbdgaaGreatDoor
namespace Go.Proofs.YtgfinhehgfbdgaaGreatDoor
open Go.RowKit Go.Maps
theorem keyedS:Keyed Tryz.prog 9:=string_keyed Tryz.underlying9
theorem zeroI (w:World):(zeroValue 3).run Tryz.prog w=.ok (.int .i64 0) w:=by kernel_rfl
theorem keyS {s:ByteArray} (h:s.size≤maxLen):keyOf Tryz.prog 9 (.string s)=some (keyL s):=Go.WideMaps.keyOf_string_mk Tryz.underlying9 h
def ownsNum (w:World) (b n:Nat) (t:List ByteArray):Prop:=∃ D,NumM D t∧w.ownsMap Tryz.prog 9 (plainElem Tryz.prog 3) b n D
theorem ownsNum_made (w:World):ownsNum (w.alloc (.map #[] 0)) w.heap.size 0 []:=⟨_,numM_nil,World.ownsMap_made _ _ _ _⟩
theorem ownsNum.kept {w w':World} {b n:Nat} {t:List ByteArray} {row:Option Nat} (h:ownsNum w b n t) (hg:w.grownBy w' row) (hne:some b≠row):ownsNum w' b n t:=by
 obtain ⟨D,h1,h2⟩:=h;exact ⟨D,h1,h2.kept hg hne⟩
theorem ownsNum.alloc {w:World} {b n:Nat} {t:List ByteArray} (h:ownsNum w b n t) (o:Obj):ownsNum (w.alloc o) b n t:=by
 obtain ⟨D,h1,h2⟩:=h;exact ⟨D,h1,h2.alloc o⟩
theorem ownsNum.drew {w:World} {b n:Nat} {t:List ByteArray} (h:ownsNum w b n t):ownsNum w.drew b n t:=by
 obtain ⟨D,h1,h2⟩:=h;exact ⟨D,h1,h2.drew⟩
theorem ownsNum.mono {w:World} {b n m:Nat} {t:List ByteArray} (h:ownsNum w b n t) (hm:n≤m):ownsNum w b m t:=by
 obtain ⟨D,h1,h2⟩:=h;exact ⟨D,h1,h2.mono hm⟩
theorem ownsNum.lt {w:World} {b n:Nat} {t:List ByteArray} (h:ownsNum w b n t):b < w.heap.size:=by
 obtain ⟨D,h1,h2⟩:=h;exact h2.lt
theorem ownsNum.below {w w':World} {b n:Nat} {t:List ByteArray} (h:ownsNum w b n t) (hb:Below w.heap.size w w'):ownsNum w' b n t :=
 h.kept (row:=none) ⟨hb.os,hb.tape,hb.output,hb.size,fun k hk _=>hb.block k hk⟩ (by simp)
theorem ownsNum.nodup {w:World} {b n:Nat} {t:List ByteArray} (h:ownsNum w b n t):t.Nodup:=by
 obtain ⟨D,h1,h2⟩:=h;exact h1.nodup
section
variable {w:World} {ops:Array Oper} {rest:List Oper} {o:Oper} {a:Act} {Q:Exit→Act→World→Prop}
theorem wpList_num_there (hg:o.guard=none) (m x:Operand) (hop:o.op=Op.lookup 216 m x true) (b n:Nat) (t:List ByteArray)
   (hm:a.eval m=.map (some b)) (hown:ownsNum w b n t) (s:ByteArray) (hx:a.eval x=.string s) (hs:s.size≤maxLen) (j:Nat) (hj:t[j]? = some s)
   (hK:wpList Tryz.prog ops Q rest (a.put o.dst (.tuple #[.int .i64 j,.bool true])) w):wpList Tryz.prog ops Q (o :: rest) a w:=by
 obtain ⟨D,h1,h2⟩:=hown
 refine wpList_lookup_own_ok_int w hg m x _ hop 9 3 .i64 keyedS Tryz.underlying216 Tryz.underlying3 (zeroI w) b n D hm h2 _ _ hx (keyS hs) ?_
 intro c hc _
 rw [h1.at' s j hj] at hc
 obtain rfl:(j:Int)=c:=by simpa using hc
 rw [h1.there s (List.mem_of_getElem? hj)]
 exact hK
theorem wpList_num_none (hg:o.guard=none) (m x:Operand) (hop:o.op=Op.lookup 216 m x true) (b n:Nat) (t:List ByteArray)
   (hm:a.eval m=.map (some b)) (hown:ownsNum w b n t) (s:ByteArray) (hx:a.eval x=.string s) (hs:s.size≤maxLen) (hj:s ∉ t)
   (hK:∀ c,wpList Tryz.prog ops Q rest (a.put o.dst (.tuple #[.int .i64 c,.bool false])) w):wpList Tryz.prog ops Q (o :: rest) a w:=by
 obtain ⟨D,h1,h2⟩:=hown
 refine wpList_lookup_own_ok_int w hg m x _ hop 9 3 .i64 keyedS Tryz.underlying216 Tryz.underlying3 (zeroI w) b n D hm h2 _ _ hx (keyS hs) ?_
 intro c hc _
 rw [h1.none s hj]
 exact hK c
theorem wpList_num_put (hg:o.guard=none) (m x v:Operand) (hop:o.op=Op.mapUpdate 216 m x v) (b n:Nat) (t:List ByteArray)
   (hm:a.eval m=.map (some b)) (hown:ownsNum w b n t) (hn:n < maxLen) (s:ByteArray) (hx:a.eval x=.string s) (hv:a.eval v=.int .i64 (t.length:Nat)) (hs:s.size≤maxLen) (hj:s ∉ t) (ht:t.length≤maxLen)
   (hK:∀ w',ownsNum w' b (n + 1) (t ++ [s])→w.grownBy w' (some b)→wpList Tryz.prog ops Q rest (a.put o.dst undef) w'):wpList Tryz.prog ops Q (o :: rest) a w:=by
 obtain ⟨D,h1,h2⟩:=hown
 refine wpList_mapUpdate_own w hg m x v _ hop 9 3 keyedS Tryz.underlying216 _ b n D hm h2 hn _ _ _ hx hv (keyS hs) (.lit (.int .i64 t.length)) [] (plainElem_int Tryz.underlying3 (WalkArith.wf_i64 (by unfold maxLen at ht;omega))) ?_
 intro w' h3 h4
 exact hK w' ⟨_,h1.put hj,h3⟩ h4
end
end Go.Proofs.YtgfinhehgfbdgaaGreatDoor
