import Derived.Test.YtifbebhgeheooaaGreatDoorKl00
import Derived.Test.YtifbebhgeheooaaGreatDoorKl01
import Derived.Deep.Draws
import Derived.Lib.Overlaps
import Derived.Lib.AppendZerosOnto
import Derived.Laws.IdiomCopy
import Derived.Deep.AppendSrc
import Derived.Deep.Upon
import Derived.Lib.JoinLaws
import Derived.Lib.SliceRun
import Derived.Deep.RegionLaw
import Derived.Laws.Externs
import Derived.Lib.Walk
import Derived.WalkSmall
import Derived.BigQuiet
import Derived.Deep.QuietTactic
import Derived.Outline
namespace Go.Proofs.YtifbebhgeheooaaGreatDoor
open Go.RowKit
theorem info_wr:(Tryz.prog.info? 25).map (fun i=>(i.zero,i.size,i.bytes))=some (some (.agg #[.int .i64 0,.int .i64 0,.int .i64 0,.string ⟨#[]⟩,.string ⟨#[]⟩,.int .i64 0]),6,64):=by kernel_rfl
instance : Inhabited Wr := ⟨⟨0, 0, 0, ⟨#[]⟩, ⟨#[]⟩, 0⟩⟩
def wrsC (l:List Wr):List Value:=l.flatMap wrC
theorem wrsC_len (l:List Wr):(wrsC l).length=l.length * 6:=by
 induction l with
 | nil=>rfl
 | cons t r ih=>simp only [wrsC,List.flatMap_cons,List.length_append,List.length_cons] at ih ⊢;rw [ih];simp [wrC];omega
theorem wrsC_app (a b:List Wr):wrsC (a ++ b)=wrsC a ++ wrsC b:=by simp [wrsC]
theorem wrsC_one (a:Wr):wrsC [a]=wrC a:=by simp [wrsC]
theorem wrsC_at (l:List Wr) (i j:Nat) (t:Wr) (h:l[i]? = some t) (hj:j < 6):(wrsC l)[i * 6 + j]? = (wrC t)[j]? := by
 induction l generalizing i with
 | nil=>simp at h
 | cons u r ih =>
   have hc:wrsC (u :: r)=wrC u ++ wrsC r:=by simp [wrsC]
   have h3:(wrC u).length=6:=rfl
   rw [hc]
   cases i with
   | zero =>
     obtain rfl:u=t:=by simpa using h
     rw [List.getElem?_append_left (by omega)]
     congr 1;omega
   | succ i =>
     rw [List.getElem?_append_right (by omega),h3,show (i + 1) * 6 + j - 6=i * 6 + j by omega]
     exact ih i (by simpa using h)
theorem wrC_cell (t:Wr):∀ u∈wrC t,u.oneCell'=true:=by
 intro u hu
 simp [wrC] at hu
 rcases hu with rfl | rfl | rfl | rfl | rfl | rfl <;> rfl
theorem wrsC_cell (l:List Wr):∀ u∈wrsC l,u.oneCell'=true:=by
 intro u hu
 obtain ⟨t,_,ht⟩:=List.mem_flatMap.1 hu
 exact wrC_cell t u ht
theorem wrsC_take (l:List Wr) (i:Nat):wrsC (l.take i)=(wrsC l).take (i * 6):=by
 induction l generalizing i with
 | nil=>simp [wrsC]
 | cons u r ih =>
   cases i with
   | zero=>simp [wrsC]
   | succ i =>
     have hc:wrsC (u :: r)=wrC u ++ wrsC r:=by simp [wrsC]
     have h3:(wrC u).length=6:=rfl
     rw [List.take_succ_cons,hc,show wrsC (u :: r.take i)=wrC u ++ wrsC (r.take i) by simp [wrsC],ih,List.take_append,h3,List.take_of_length_le (l:=wrC u) (by rw [h3];omega),show (i + 1) * 6 - 6=i * 6 by omega]
theorem wrsC_drop (l:List Wr) (i:Nat):wrsC (l.drop i)=(wrsC l).drop (i * 6):=by
 induction l generalizing i with
 | nil=>simp [wrsC]
 | cons u r ih =>
   cases i with
   | zero=>simp [wrsC]
   | succ i =>
     have hc:wrsC (u :: r)=wrC u ++ wrsC r:=by simp [wrsC]
     have h3:(wrC u).length=6:=rfl
     rw [List.drop_succ_cons,hc,ih,List.drop_append,h3,show (wrC u).drop ((i + 1) * 6)=[] from List.drop_of_length_le (by rw [h3];omega),show (i + 1) * 6 - 6=i * 6 by omega,List.nil_append]
def ownsW (w:World) (base:Nat) (v:Value) (l:List Wr):Prop:=w.ownsRow base 25 6 v l.length (wrsC l)
theorem ownsW_nil (w:World) (base:Nat):ownsW w base (.slice none 0 0) []:=World.ownsRow_nil _ _ _ _
theorem ownsW.alloc {w:World} {base:Nat} {v:Value} {l:List Wr} (h:ownsW w base v l) (o:Obj):ownsW (w.alloc o) base v l:=World.ownsRow.alloc h o
theorem ownsW.drew {w:World} {base:Nat} {v:Value} {l:List Wr} (h:ownsW w base v l):ownsW w.drew base v l:=World.ownsRow.drew h
theorem ownsW.drewN {w:World} {base:Nat} {v:Value} {l:List Wr} (h:ownsW w base v l) (n:Nat):ownsW (w.drewN n) base v l:=h
theorem ownsW.lt {w:World} {base:Nat} {v:Value} {l:List Wr} (h:ownsW w base v l):∀ k,v.ownBlock=some k→base≤k∧k < w.heap.size:=World.ownsRow.lt h
theorem ownsW.mono {w:World} {base base':Nat} {v:Value} {l:List Wr} (h:ownsW w base v l) (hb:base'≤base):ownsW w base' v l:=by
 obtain ⟨h0,h1⟩:=h
 refine ⟨h0,?_⟩
 rcases h1 with h1 | ⟨g,cap,cur,hv,hg,r⟩
 · exact .inl h1
 · exact .inr ⟨g,cap,cur,hv,Nat.le_trans hb hg,r⟩
theorem ownsW.below {w w':World} {base:Nat} {v:Value} {l:List Wr} (h:ownsW w base v l) (hb:Below w.heap.size w w'):ownsW w' base v l:=by
 refine World.ownsRow.kept h (row:=none) ⟨hb.os,hb.tape,hb.output,hb.size,fun k hk _=>hb.block k hk⟩ ?_
 cases hv:v.ownBlock with
 | none=>exact .inl rfl
 | some g=>exact .inr (by simp)
def IsWrs (w:World) (v:Value) (l:List Wr):Prop :=
 (∃ a c,v=.slice a 0 c∧l=[])∨∃ b off c,v=.slice (some ⟨b,off,none⟩) l.length c∧(0 < l.length∧l.length≤c)∧b < w.heap.size∧∀ j u,(wrsC l)[j]? = some u→w.cell? ⟨b,off + j,none⟩=some u
theorem ownsW.is {w:World} {base:Nat} {v:Value} {l:List Wr} (h:ownsW w base v l):IsWrs w v l:=by
 have hall:=h
 have hlt:=h.lt
 obtain ⟨h0,h1⟩:=h
 rcases h1 with ⟨rfl,hn⟩ | ⟨g,cap,cur,rfl,hb,hh,hc,hm,hs,ht⟩
 · exact .inl ⟨_,_,rfl,List.length_eq_zero_iff.1 hn⟩
 · by_cases hz:l.length=0
   · exact .inl ⟨_,_,by rw [hz],List.length_eq_zero_iff.1 hz⟩
   · refine .inr ⟨g,0,cap,rfl,⟨by omega,hc⟩,(hlt g rfl).2,fun j u hj=>?_⟩
     have hjl:j < l.length * 6:=by rw [←wrsC_len];exact (List.getElem?_eq_some_iff.1 hj).1
     rw [Nat.zero_add,World.ownsRow.cellAt hall j hjl]
     exact hj
theorem IsWrs.nil (w:World):IsWrs w (.slice none 0 0) []:=.inl ⟨_,_,rfl,rfl⟩
theorem IsWrs.below {w w':World} {v:Value} {l:List Wr} (h:IsWrs w v l) (hb:Below w.heap.size w w'):IsWrs w' v l:=by
 rcases h with ⟨a,c,h1,h2⟩ | ⟨b,off,c,h1,h0,h2,h3⟩
 · exact .inl ⟨a,c,h1,h2⟩
 · exact .inr ⟨b,off,c,h1,h0,Nat.lt_of_lt_of_le h2 hb.size,fun j u hj=>(hb.cell (p:=⟨b,off + j,none⟩) h2).trans (h3 j u hj)⟩
theorem IsWrs.alloc {w:World} {v:Value} {l:List Wr} (h:IsWrs w v l) (o:Obj):IsWrs (w.alloc o) v l:=h.below ((Below.refl _ _).alloc (Nat.le_refl _) o)
theorem IsWrs.drewN {w:World} {v:Value} {l:List Wr} (h:IsWrs w v l) (n:Nat):IsWrs (w.drewN n) v l:=h
theorem IsWrs.form {w:World} {v:Value} {l:List Wr} (h:IsWrs w v l):∃ a c,v=.slice a l.length c∧∀ i t,l[i]? = some t→∃ b off,a=some ⟨b,off,none⟩∧b < w.heap.size ∧
   w.cell? ⟨b,off + i * 6,none⟩=some (.int .i64 t.time)∧w.cell? ⟨b,off + i * 6 + 1,none⟩=some (.int .i64 t.rep)∧w.cell? ⟨b,off + i * 6 + 2,none⟩=some (.int .i64 t.kind) ∧
   w.cell? ⟨b,off + i * 6 + 3,none⟩=some (.string t.key)∧w.cell? ⟨b,off + i * 6 + 4,none⟩=some (.string t.value)∧w.cell? ⟨b,off + i * 6 + 5,none⟩=some (.int .i64 t.n):=by
 rcases h with ⟨a,c,rfl,rfl⟩ | ⟨b,off,c,rfl,h0,h2,h3⟩
 · exact ⟨a,c,rfl,fun i t h=>by simp at h⟩
 · refine ⟨_,_,rfl,fun i t h=>⟨b,off,rfl,h2,?_,?_,?_,?_,?_,?_⟩⟩
   · exact h3 _ _ ((wrsC_at l i 0 t h (by omega)).trans rfl)
   · exact h3 _ _ ((wrsC_at l i 1 t h (by omega)).trans rfl)
   · exact h3 _ _ ((wrsC_at l i 2 t h (by omega)).trans rfl)
   · exact h3 _ _ ((wrsC_at l i 3 t h (by omega)).trans rfl)
   · exact h3 _ _ ((wrsC_at l i 4 t h (by omega)).trans rfl)
   · exact h3 _ _ ((wrsC_at l i 5 t h (by omega)).trans rfl)
def wrBlk (w:World) (B:Nat) (t:Wr):Prop:=w.heap[B]? = some (.cells (wrC t).toArray 25 (0,0))
theorem wrBlk_is {w:World} {B:Nat} {t:Wr} (h:wrBlk w B t):IsWrs w (.slice (some ⟨B,0,none⟩) 1 1) [t]:=by
 refine .inr ⟨B,0,1,rfl,⟨Nat.zero_lt_one,Nat.le_refl 1⟩,(Array.getElem?_eq_some_iff.1 h).1,fun j u hj=>?_⟩
 rw [Nat.zero_add,cell_of_row _ _ j _ _ (0,0) h]
 rw [wrsC_one] at hj
 simpa using hj
theorem wpList_append_wr {w:World} {ops:Array Oper} {rest:List Oper} {o:Oper} {a:Act} {Q:Exit→Act→World→Prop} (hgd:o.guard=none) (s x:Operand)
   (ho:o.op=.call { callee:=.builtin .append,args:=#[s,x],argTypes:=#[36,36] })
   (base:Nat) (v:Value) (l:List Wr) (hs:a.eval s=v) (hown:ownsW w base v l)
   (B c:Nat) (hx:a.eval x=.slice (some ⟨B,0,none⟩) 1 c) (t:Wr) (hcell:wrBlk w B t)
   (hlen:l.length + 1≤1000000) (hbase:base≤w.heap.size)
   (h:∀ g cap w',ownsW w' base (.slice (some ⟨g,0,none⟩) (l.length + 1) cap) (l ++ [t])→w.grownBy w' v.ownBlock→wpList Tryz.prog ops Q rest (a.put o.dst (.slice (some ⟨g,0,none⟩) (l.length + 1) cap)) w'):wpList Tryz.prog ops Q (o :: rest) a w:=by
 obtain ⟨i0,hi,hz0,hz1,hz2⟩:=info_parts info_wr
 refine wpList_append_lies w hgd s x 36 ho base 25 i0 (.agg #[.int .i64 0,.int .i64 0,.int .i64 0,.string ⟨#[]⟩,.string ⟨#[]⟩,.int .i64 0]) 6 64 Tryz.underlying36 hi hz0 hz1 hz2 rfl (by decide) v l.length (wrsC l) hs hown ⟨B,0,none⟩ 1 c (wrC t) hx rfl ?_ (wrC_cell t) (by decide) (by unfold maxLen;omega) (by omega) hbase _ rfl ?_
 · intro j u hj
   have hadd:(⟨B,0,none⟩:Addr).add j=⟨B,j,none⟩:=by unfold Addr.add;split <;> simp_all
   rw [hadd,cell_of_row _ _ _ _ _ _ hcell,←hj]
   simp
 · intro g cap w' h1 h2 _ _
   refine h g cap w' ?_ h2
   unfold ownsW
   rw [List.length_append,wrsC_app,wrsC_one]
   exact h1
end Go.Proofs.YtifbebhgeheooaaGreatDoor
namespace Go.Proofs.YtifbebhgeheooaaGreatDoor
open Go.RowKit
theorem hasv_any (K:Int) (b:Bool) (w:World) (h:hasV K=b):Calls Tryz.prog 40 #[.int .i64 K] w fun e w'=>e=.returned (.bool b)∧w=w':=by
 subst h
 unfold hasV
 by_cases h1:K=1
 · subst h1
   go_enter Tryz.func40,Tryz.ntmps40
   go_wp2
   go_ret
   exact ⟨rfl,rfl⟩
 · have b1:(K == 1)=false:=by simpa using h1
   rw [decide_eq_false h1,Bool.false_or]
   go_enter Tryz.func40,Tryz.ntmps40
   go_wp2
   go_ret
   exact ⟨by first | rfl | (congr 2;rw [Bool.eq_iff_iff];simp),rfl⟩
theorem hasn_any (K:Int) (b:Bool) (w:World) (h:hasN K=b):Calls Tryz.prog 41 #[.int .i64 K] w fun e w'=>e=.returned (.bool b)∧w=w':=by
 subst h
 unfold hasN
 by_cases h1:K=3
 · subst h1
   go_enter Tryz.func41,Tryz.ntmps41
   go_wp2
   go_ret
   exact ⟨rfl,rfl⟩
 · have b1:(K == 3)=false:=by simpa using h1
   rw [decide_eq_false h1,Bool.false_or]
   go_enter Tryz.func41,Tryz.ntmps41
   go_wp2
   go_ret
   exact ⟨by first | rfl | (congr 2;rw [Bool.eq_iff_iff];simp),rfl⟩
def wv (T R K:Int) (key val:ByteArray) (N:Int):Value:=.agg #[.int .i64 T,.int .i64 R,.int .i64 K,.string key,.string val,.int .i64 N]
set_option maxRecDepth 100000 in
set_option maxHeartbeats 1000000 in
theorem fits_any (T R K:Int) (key val:ByteArray) (N:Int) (b:Bool) (w:World) (h:fitsN K N=b) :
   Calls Tryz.prog 42 #[.agg #[.int .i64 T,.int .i64 R,.int .i64 K,.string key,.string val,.int .i64 N]] w fun e w'=>e=.returned (.bool b)∧Below w.heap.size w w':=by
 subst h
 unfold fitsN
 by_cases h1:K=3
 · subst h1
   rw [if_pos rfl]
   by_cases h2 : -1125899906842624≤N
   · rw [decide_eq_true h2,Bool.true_and]
     go_enter Tryz.func42,Tryz.ntmps42
     go_wp2
     go_ret
     exact ⟨by first | rfl | simp,(Below.refl _ _).alloc (Nat.le_refl _) _⟩
   · rw [decide_eq_false h2,Bool.false_and]
     have d:=decide_eq_false h2
     go_enter Tryz.func42,Tryz.ntmps42
     go_wp2
     go_ret
     exact ⟨by first | rfl | simp,(Below.refl _ _).alloc (Nat.le_refl _) _⟩
 · rw [if_neg h1]
   have b1:(K == 3)=false:=by simpa using h1
   by_cases h3:K=4
   · subst h3
     rw [if_pos rfl]
     by_cases h2:0≤N
     · rw [decide_eq_true h2,Bool.true_and]
       go_enter Tryz.func42,Tryz.ntmps42
       go_wp2
       go_ret
       exact ⟨by first | rfl | simp,(Below.refl _ _).alloc (Nat.le_refl _) _⟩
     · rw [decide_eq_false h2,Bool.false_and]
       have d:=decide_eq_false h2
       go_enter Tryz.func42,Tryz.ntmps42
       go_wp2
       go_ret
       exact ⟨by first | rfl | simp,(Below.refl _ _).alloc (Nat.le_refl _) _⟩
   · rw [if_neg h3]
     have b3:(K == 4)=false:=by simpa using h3
     go_enter Tryz.func42,Tryz.ntmps42
     go_wp2
     go_ret
     exact ⟨rfl,(Below.refl _ _).alloc (Nat.le_refl _) _⟩
def wrAt (w:World) (B:Nat) (T R K:Int) (key val:ByteArray) (N:Int):Prop :=
 w.cell? ⟨B,0,none⟩=some (.int .i64 T)∧w.cell? ⟨B,1,none⟩=some (.int .i64 R)∧w.cell? ⟨B,2,none⟩=some (.int .i64 K)∧w.cell? ⟨B,3,none⟩=some (.string key)∧w.cell? ⟨B,4,none⟩=some (.string val)∧w.cell? ⟨B,5,none⟩=some (.int .i64 N)
theorem wrAt.below {w w':World} {B:Nat} {T R K:Int} {key val:ByteArray} {N:Int} {m:Nat} (h:wrAt w B T R K key val N) (hb:Below m w w') (hm:B < m):wrAt w' B T R K key val N :=
 ⟨(hb.cell hm).trans h.1,(hb.cell hm).trans h.2.1,(hb.cell hm).trans h.2.2.1,(hb.cell hm).trans h.2.2.2.1,(hb.cell hm).trans h.2.2.2.2.1,(hb.cell hm).trans h.2.2.2.2.2⟩
theorem wrAt_new (w:World) (T R K:Int) (key val:ByteArray) (N:Int) (t:TypeId):wrAt (w.alloc (.cells #[.int .i64 T,.int .i64 R,.int .i64 K,.string key,.string val,.int .i64 N] t)) w.heap.size T R K key val N:=by
 unfold wrAt;simp
set_option maxRecDepth 100000 in
set_option maxHeartbeats 4000000 in
theorem wright_any (T R K:Int) (key val:ByteArray) (N:Int) (w:World) (hk:key.size≤140737488351232) (hv:val.size≤140737488351232) :
   Calls Tryz.prog 9 #[.agg #[.int .i64 T,.int .i64 R,.int .i64 K,.string key,.string val,.int .i64 N]] w fun e w'=>e=.returned (errV (wriE T R K key val N))∧Below w.heap.size w w':=by
 have HN0:=Lib.hid (wrAt_new w T R K key val N 25)
 by_cases hK:K < 1∨4 < K
 · rw [wriE_kind hK]
   by_cases h1:K < 1
   · go_enter Tryz.func9,Tryz.ntmps9
     go_wp2
     go_ret
     exact ⟨rfl,(Below.refl _ _).alloc (Nat.le_refl _) _⟩
   · have h2:4 < K:=by omega
     go_enter Tryz.func9,Tryz.ntmps9
     go_wp2
     go_ret
     exact ⟨rfl,(Below.refl _ _).alloc (Nat.le_refl _) _⟩
 · have h1:¬ K < 1:=by omega
   have h2:¬ 4 < K:=by omega
   cases hid:idOk T R with
   | false =>
     rw [wriE_id hK hid]
     go_enter Tryz.func9,Tryz.ntmps9
     go_wp2_with fail
     refine (idrightW_any T R false _ hid).mono ?_
     rintro r w1 ⟨rfl,hb1⟩
     have HB1:=Lib.hid (((Below.refl _ _).alloc (Nat.le_refl _) _).trans (hb1.mono (by simp)))
     clear hb1
     go_wp2
     go_ret
     exact ⟨rfl,HB1.out⟩
   | true =>
     go_enter Tryz.func9,Tryz.ntmps9
     go_wp2_with fail
     refine (idrightW_any T R true _ hid).mono ?_
     rintro r w1 ⟨rfl,hb1⟩
     have HA1:=Lib.hid (HN0.out.below hb1 (by simp))
     have HB1:=Lib.hid (((Below.refl _ _).alloc (Nat.le_refl _) _).trans (hb1.mono (by simp)))
     have HL1:Hid (w.heap.size < w1.heap.size):=Lib.hid (by have:=hb1.size;simp at this;exact this)
     have HID:=Lib.hid hid
     clear hb1 hid
     obtain ⟨c0,c1,c2,c3,c4,c5⟩:=HA1.out
     by_cases hs:40 < key.size∨300 < val.size
     · have HW:=Lib.hid (wriE_size (N:=N) hK HID.out hs)
       by_cases h3:40 < key.size
       · go_wp2
         go_ret
         rw [HW.out]
         exact ⟨rfl,HB1.out⟩
       · have h4:300 < val.size:=by omega
         go_wp2
         go_ret
         rw [HW.out]
         exact ⟨rfl,HB1.out⟩
     · have h3:¬ 40 < key.size:=by omega
       have h4:¬ 300 < val.size:=by omega
       have HW:=Lib.hid (wriE_rest (N:=N) hK HID.out hs)
       clear hK hs
       by_cases hve:0 < val.size
       · have b0:¬ val.toList=[]:=by have:=bne_empty hve;simpa using this
         cases hV:hasV K with
         | false =>
           have HR:Hid (wriE T R K key val N=3):=Lib.hid (by rw [HW.out,hV];simp [hve])
           clear hve
           go_wp2_with (go_at_call 40;refine (hasv_any K false _ hV).mono ?_;rintro r w2 ⟨rfl,rfl⟩)
           go_ret
           rw [HR.out]
           exact ⟨rfl,HB1.out⟩
         | true =>
           by_cases hn:N=0
           · subst hn
             cases hF:fitsN K 0 with
             | true =>
               have HR:Hid (wriE T R K key val 0=0):=Lib.hid (by rw [HW.out,hF];simp [hV])
               go_wp2_with (first | (go_at_call 40;refine (hasv_any K true _ hV).mono ?_;rintro r w2 ⟨rfl,rfl⟩) | (go_at_call 42;refine (fits_any T R K key val 0 true _ hF).mono ?_;rintro r w4 ⟨rfl,hb4⟩;have HB4:=Lib.hid (HB1.out.trans (hb4.mono (Nat.le_of_lt HL1.out)));clear hb4))
               go_ret
               rw [HR.out]
               exact ⟨rfl,HB4.out⟩
             | false =>
               have HR:Hid (wriE T R K key val 0=2):=Lib.hid (by rw [HW.out,hF];simp [hV])
               go_wp2_with (first | (go_at_call 40;refine (hasv_any K true _ hV).mono ?_;rintro r w2 ⟨rfl,rfl⟩) | (go_at_call 42;refine (fits_any T R K key val 0 false _ hF).mono ?_;rintro r w4 ⟨rfl,hb4⟩;have HB4:=Lib.hid (HB1.out.trans (hb4.mono (Nat.le_of_lt HL1.out)));clear hb4))
               go_ret
               rw [HR.out]
               exact ⟨rfl,HB4.out⟩
           · cases hM:hasN K with
             | false =>
               have HR:Hid (wriE T R K key val N=3):=Lib.hid (by rw [HW.out,hM];simp [hn])
               go_wp2_with (first | (go_at_call 40;refine (hasv_any K true _ hV).mono ?_;rintro r w2 ⟨rfl,rfl⟩) | (go_at_call 41;refine (hasn_any K false _ hM).mono ?_;rintro r w3 ⟨rfl,rfl⟩))
               go_ret
               rw [HR.out]
               exact ⟨rfl,HB1.out⟩
             | true =>
               cases hF:fitsN K N with
               | true =>
                 have HR:Hid (wriE T R K key val N=0):=Lib.hid (by rw [HW.out,hF];simp [hV,hM])
                 go_wp2_with (first | (go_at_call 40;refine (hasv_any K true _ hV).mono ?_;rintro r w2 ⟨rfl,rfl⟩) | (go_at_call 41;refine (hasn_any K true _ hM).mono ?_;rintro r w3 ⟨rfl,rfl⟩) | (go_at_call 42;refine (fits_any T R K key val N true _ hF).mono ?_;rintro r w4 ⟨rfl,hb4⟩;have HB4:=Lib.hid (HB1.out.trans (hb4.mono (Nat.le_of_lt HL1.out)));clear hb4))
                 go_ret
                 rw [HR.out]
                 exact ⟨rfl,HB4.out⟩
               | false =>
                 have HR:Hid (wriE T R K key val N=2):=Lib.hid (by rw [HW.out,hF];simp [hV,hM])
                 go_wp2_with (first | (go_at_call 40;refine (hasv_any K true _ hV).mono ?_;rintro r w2 ⟨rfl,rfl⟩) | (go_at_call 41;refine (hasn_any K true _ hM).mono ?_;rintro r w3 ⟨rfl,rfl⟩) | (go_at_call 42;refine (fits_any T R K key val N false _ hF).mono ?_;rintro r w4 ⟨rfl,hb4⟩;have HB4:=Lib.hid (HB1.out.trans (hb4.mono (Nat.le_of_lt HL1.out)));clear hb4))
                 go_ret
                 rw [HR.out]
                 exact ⟨rfl,HB4.out⟩
       · obtain rfl:=empty_of hve
         have z0:(⟨#[]⟩:ByteArray).size=0:=rfl
         by_cases hn:N=0
         · subst hn
           cases hF:fitsN K 0 with
           | true =>
             have HR:Hid (wriE T R K key ⟨#[]⟩ 0=0):=Lib.hid (by rw [HW.out,hF];simp [z0])
             go_wp2_with (go_at_call 42;refine (fits_any T R K key ⟨#[]⟩ 0 true _ hF).mono ?_;rintro r w4 ⟨rfl,hb4⟩;have HB4:=Lib.hid (HB1.out.trans (hb4.mono (Nat.le_of_lt HL1.out)));clear hb4)
             go_ret
             rw [HR.out]
             exact ⟨rfl,HB4.out⟩
           | false =>
             have HR:Hid (wriE T R K key ⟨#[]⟩ 0=2):=Lib.hid (by rw [HW.out,hF];simp [z0])
             go_wp2_with (go_at_call 42;refine (fits_any T R K key ⟨#[]⟩ 0 false _ hF).mono ?_;rintro r w4 ⟨rfl,hb4⟩;have HB4:=Lib.hid (HB1.out.trans (hb4.mono (Nat.le_of_lt HL1.out)));clear hb4)
             go_ret
             rw [HR.out]
             exact ⟨rfl,HB4.out⟩
         · cases hM:hasN K with
           | false =>
             have HR:Hid (wriE T R K key ⟨#[]⟩ N=3):=Lib.hid (by rw [HW.out,hM];simp [hn])
             go_wp2_with (first | (go_at_call 41;refine (hasn_any K false _ hM).mono ?_;rintro r w3 ⟨rfl,rfl⟩))
             go_ret
             rw [HR.out]
             exact ⟨rfl,HB1.out⟩
           | true =>
             cases hF:fitsN K N with
             | true =>
               have HR:Hid (wriE T R K key ⟨#[]⟩ N=0):=Lib.hid (by rw [HW.out,hF];simp [hM,z0])
               go_wp2_with (first | (go_at_call 41;refine (hasn_any K true _ hM).mono ?_;rintro r w3 ⟨rfl,rfl⟩) | (go_at_call 42;refine (fits_any T R K key ⟨#[]⟩ N true _ hF).mono ?_;rintro r w4 ⟨rfl,hb4⟩;have HB4:=Lib.hid (HB1.out.trans (hb4.mono (Nat.le_of_lt HL1.out)));clear hb4))
               go_ret
               rw [HR.out]
               exact ⟨rfl,HB4.out⟩
             | false =>
               have HR:Hid (wriE T R K key ⟨#[]⟩ N=2):=Lib.hid (by rw [HW.out,hF];simp [hM,z0])
               go_wp2_with (first | (go_at_call 41;refine (hasn_any K true _ hM).mono ?_;rintro r w3 ⟨rfl,rfl⟩) | (go_at_call 42;refine (fits_any T R K key ⟨#[]⟩ N false _ hF).mono ?_;rintro r w4 ⟨rfl,hb4⟩;have HB4:=Lib.hid (HB1.out.trans (hb4.mono (Nat.le_of_lt HL1.out)));clear hb4))
               go_ret
               rw [HR.out]
               exact ⟨rfl,HB4.out⟩
end Go.Proofs.YtifbebhgeheooaaGreatDoor
namespace Go.Proofs.YtifbebhgeheooaaGreatDoor
structure Cel where
 has:Bool
 text:ByteArray
 sum:Int
 list:List ByteArray
def cel0:Cel:=⟨false,⟨#[]⟩,0,[]⟩
def insL (l:List ByteArray) (n:Int) (v:ByteArray):List ByteArray:=l.take (min n.toNat l.length) ++ (v :: l.drop (min n.toNat l.length))
def stepC (c:Cel) (w:Wr):Cel :=
 if w.kind=1 then { c with has:=true,text:=w.value }
 else if w.kind=2 then cel0
 else if w.kind=3 then { c with sum:=IntKind.i64.wrap (c.sum + w.n) }
 else if w.kind=4 then { c with list:=insL c.list w.n w.value }
 else c
def live (c:Cel):Bool:=c.has || c.sum != 0 || !c.list.isEmpty
def cellK (l:List Wr) (k:ByteArray):Cel:=(l.filter (fun w=>decide (w.key=k))).foldl stepC cel0
def leB (a b:ByteArray):Bool:=decide (a.data.toList≤b.data.toList)
def keysS (l:List Wr):List ByteArray:=(tabK [] (l.map (·.key))).mergeSort leB
def cellsF (l:List Wr):List (ByteArray×Cel):=((keysS l).map fun k=>(k,cellK l k)).filter fun c=>live c.2
theorem leB_trans (a b c:ByteArray) (h:leB a b=true) (k:leB b c=true):leB a c=true:=by
 unfold leB at *;simp only [decide_eq_true_eq] at *;exact List.le_trans h k
theorem leB_total (a b:ByteArray):(leB a b || leB b a)=true:=by
 unfold leB;simp only [Bool.or_eq_true,decide_eq_true_eq];exact List.le_total _ _
theorem leB_anti {a b:ByteArray} (h:leB a b=true) (k:leB b a=true):a=b:=by
 unfold leB at *;simp only [decide_eq_true_eq] at *
 have e:=List.le_antisymm h k
 cases a;cases b;simp_all
theorem keysS_perm (l:List Wr):(keysS l).Perm (tabK [] (l.map (·.key))):=List.mergeSort_perm _ _
theorem keysS_mem {l:List Wr} {k:ByteArray}:k∈keysS l↔∃ w∈l,w.key=k:=by
 rw [(keysS_perm l).mem_iff]
 constructor
 · intro h
   rcases tabK_sub _ _ _ h with h | h
   · cases h
   · obtain ⟨w,hw,e⟩:=List.mem_map.1 h;exact ⟨w,hw,e⟩
 · rintro ⟨w,hw,rfl⟩
   exact tabK_has _ _ _ (List.mem_map.2 ⟨w,hw,rfl⟩)
theorem keysS_sorted (l:List Wr):(keysS l).Pairwise (fun a b=>leB a b=true):=List.pairwise_mergeSort leB_trans leB_total _
theorem keysS_nodup (l:List Wr):(keysS l).Nodup:=(keysS_perm l).nodup_iff.2 (tabK_nodup _ _ List.nodup_nil)
theorem sorted_unique {α:Type} {x y:List (ByteArray×α)} (hx:(x.map (·.1)).Nodup) (hy:(y.map (·.1)).Nodup) (sx:x.Pairwise (fun a b=>leB a.1 b.1=true)) (sy:y.Pairwise (fun a b=>leB a.1 b.1=true)) (h:∀ c,c∈x↔c∈y):x=y:=by
 have nx:x.Nodup:=(List.pairwise_map.1 hx).imp (fun h e=>h (by rw [e]))
 have ny:y.Nodup:=(List.pairwise_map.1 hy).imp (fun h e=>h (by rw [e]))
 have hp:x.Perm y:=(List.perm_ext_iff_of_nodup nx ny).2 h
 refine List.Perm.eq_of_pairwise (le:=fun a b=>leB a.1 b.1=true) ?_ sx sy hp
 intro a b ha hb h1 h2
 have e1:=leB_anti h1 h2
 have hb':=(h b).2 hb
 by_cases e:a=b
 · exact e
 · exfalso
   obtain ⟨i,hi,rfl⟩:=List.getElem_of_mem ha
   obtain ⟨j,hj,rfl⟩:=List.getElem_of_mem hb'
   have hi':i < (x.map (·.1)).length:=by simpa using hi
   have hj':j < (x.map (·.1)).length:=by simpa using hj
   have:(x.map (·.1))[i]=(x.map (·.1))[j]:=by simpa using e1
   have hij:i=j:=(List.getElem_inj hx).1 this
   subst hij
   exact e rfl
theorem cellsF_keys (l:List Wr):(cellsF l).map (·.1)=(keysS l).filter fun k=>live (cellK l k):=by
 unfold cellsF
 rw [List.filter_map,List.map_map]
 simp [Function.comp_def]
theorem cellsF_nodup (l:List Wr):((cellsF l).map (·.1)).Nodup:=by rw [cellsF_keys];exact (keysS_nodup l).filter _
theorem cellsF_sorted (l:List Wr):(cellsF l).Pairwise (fun a b=>leB a.1 b.1=true):=by
 unfold cellsF
 exact List.Pairwise.filter _ (List.pairwise_map.2 (keysS_sorted l))
theorem cellK_none {l:List Wr} {k:ByteArray} (h:∀ w∈l,w.key≠k):cellK l k=cel0:=by
 unfold cellK
 rw [List.filter_eq_nil_iff.2 (fun w hw=>by simpa using h w hw)];rfl
theorem cellsF_mem {l:List Wr} {k:ByteArray} {c:Cel}:(k,c)∈cellsF l↔cellK l k=c∧live c=true:=by
 unfold cellsF
 rw [List.mem_filter,List.mem_map]
 constructor
 · rintro ⟨⟨k',hk,e⟩,hl⟩
   injection e with e1 e2
   subst e1
   exact ⟨e2,hl⟩
 · rintro ⟨rfl,hl⟩
   refine ⟨⟨k,?_,rfl⟩,hl⟩
   rw [keysS_mem]
   refine Classical.byContradiction fun hn=>?_
   rw [cellK_none (fun w hw e=>hn ⟨w,hw,e⟩)] at hl
   exact absurd hl (by decide)
theorem cellK_app (l m:List Wr) (k:ByteArray):cellK (l ++ m) k=(m.filter (fun w=>decide (w.key=k))).foldl stepC (cellK l k):=by
 unfold cellK;rw [List.filter_append,List.foldl_append]
theorem insL_perm (l:List ByteArray) (n:Int) (v:ByteArray):(insL l n v).Perm (v :: l):=by
 unfold insL
 refine (List.perm_middle).trans ?_
 rw [List.take_append_drop]
end Go.Proofs.YtifbebhgeheooaaGreatDoor
namespace Go.Proofs.YtifbebhgeheooaaGreatDoor
open Go.RowKit
def rowAt (w:World) (g off cap:Nat) (l:List Wr):Prop :=
 (∀ j u,(wrsC l)[j]? = some u→w.cell? ⟨g,off + j,none⟩=some u)∧(∀ j,j < cap * 6→(w.cell? ⟨g,off + j,none⟩).isSome=true∧w.frozen? ⟨g,off + j,none⟩=false)
theorem ownsW.rowAt {w:World} {base:Nat} {v:Value} {l:List Wr} (h:ownsW w base v l) (h0:0 < l.length) :
   ∃ g cap,v=.slice (some ⟨g,0,none⟩) l.length cap∧base≤g∧g < w.heap.size∧l.length≤cap∧cap≤maxLen∧rowAt w g 0 cap l∧w.shape? g=some (25,cap * 6):=by
 have hall:=h
 have hlt:=h.lt
 obtain ⟨_,h1⟩:=h
 rcases h1 with ⟨rfl,hn⟩ | ⟨g,cap,cur,rfl,hb,hh,hc,hm,hs,ht⟩
 · omega
 · refine ⟨g,cap,rfl,hb,(hlt g rfl).2,hc,hm,⟨fun j u hj=>?_,fun j hj=>⟨?_,?_⟩⟩,?_⟩
   · have hjl:j < l.length * 6:=by rw [←wrsC_len];exact (List.getElem?_eq_some_iff.1 hj).1
     rw [Nat.zero_add,World.ownsRow.cellAt hall j hjl]
     exact hj
   · rw [Nat.zero_add,cell_of_row _ _ j _ _ (0,0) hh,Array.getElem?_eq_getElem (by rw [hs];exact hj)];rfl
   · simp [World.frozen?,hh]
   · simp [World.shape?,hh,hs]
theorem run_copyK {P:Program} (w:World) (dT sT ty elem:TypeId) (size:Nat) (b o dLen dCap:Nat) (a:Addr) (sLen sCap:Nat) (cs:List Value)
   (hu:P.underlying dT=some (.slice elem)) (hs:(P.info? elem).map (·.size)=some size) (hn:cs.length=Nat.min sLen dLen * size)
   (hsrc:∀ j v,cs[j]? = some v→w.cell? (a.add j)=some v) (hc:∀ j,j < cs.length→(w.cell? ⟨b,o + j,none⟩).isSome=true) (hf:∀ j,j < cs.length→w.frozen? ⟨b,o + j,none⟩=false) (h1:∀ v∈cs,v.oneCell'=true) :
   (Builtin.copy_ #[dT,sT] ty #[.slice (some ⟨b,o,none⟩) dLen dCap,.slice (some a) sLen sCap]).run P w=.ok (goInt (Nat.min sLen dLen)) (w.setCells b o cs):=by
 have hl:=run_loadCells_list (P:=P) w a cs hsrc
 have hst:=run_storeCells_cells (P:=P) b o cs 0 w (by simpa using hc) (by simpa using hf) h1
 cases hq:P.info? elem with
 | none=>simp [hq] at hs
 | some i =>
   have hi:i.size=size:=by simpa [hq] using hs
   simp [Builtin.copy_,run_underlying hu,Builtin.lenOf,Builtin.firstCells,sizeOf,typeInfo,hq,hi,←hn,hl,hst]
theorem rowAt.cell {w:World} {g off cap:Nat} {l:List Wr} (h:rowAt w g off cap l) {j:Nat} {u:Value} (hj:(wrsC l)[j]? = some u):w.cell? ⟨g,off + j,none⟩=some u:=h.1 j u hj
theorem rowAt.drew {w:World} {g off cap:Nat} {l:List Wr} (h:rowAt w g off cap l):rowAt w.drew g off cap l:=h
theorem below_setCells {w wr:World} {base g:Nat} (h:Below base w wr) (hg:base≤g):∀ (vs:List Value) (o:Nat),Below base w (wr.setCells g o vs):=by
 intro vs
 induction vs generalizing wr with
 | nil=>intro o;exact h
 | cons v r ih=>intro o;exact ih (h.setCell hg _) (o + 1)
theorem wpList_append_wrs {w:World} {ops:Array Oper} {rest:List Oper} {o:Oper} {a:Act} {Q:Exit→Act→World→Prop} (hgd:o.guard=none) (s x:Operand)
   (ho:o.op=.call { callee:=.builtin .append,args:=#[s,x],argTypes:=#[36,36] })
   (base:Nat) (v:Value) (l:List Wr) (hs:a.eval s=v) (hown:ownsW w base v l)
   (B off c n:Nat) (hx:a.eval x=.slice (some ⟨B,off,none⟩) n c) (m:List Wr) (hn:n=m.length) (hcell:∀ j u,(wrsC m)[j]? = some u→w.cell? ⟨B,off + j,none⟩=some u)
   (hm:0 < m.length) (hlen:l.length + m.length≤1000000) (hbase:base≤w.heap.size)
   (h:∀ g cap w',ownsW w' base (.slice (some ⟨g,0,none⟩) (l.length + m.length) cap) (l ++ m)→w.grownBy w' v.ownBlock→wpList Tryz.prog ops Q rest (a.put o.dst (.slice (some ⟨g,0,none⟩) (l.length + m.length) cap)) w'):wpList Tryz.prog ops Q (o :: rest) a w:=by
 subst hn
 obtain ⟨i0,hi,hz0,hz1,hz2⟩:=info_parts info_wr
 refine wpList_append_lies w hgd s x 36 ho base 25 i0 (.agg #[.int .i64 0,.int .i64 0,.int .i64 0,.string ⟨#[]⟩,.string ⟨#[]⟩,.int .i64 0]) 6 64 Tryz.underlying36 hi hz0 hz1 hz2 rfl (by decide) v l.length (wrsC l) hs hown ⟨B,off,none⟩ m.length c (wrsC m) hx (wrsC_len m) ?_ (wrsC_cell m) hm (by unfold maxLen;omega) (by omega) hbase _ rfl ?_
 · intro j u hj
   have hadd:(⟨B,off,none⟩:Addr).add j=⟨B,off + j,none⟩:=by unfold Addr.add;split <;> simp_all
   rw [hadd];exact hcell j u hj
 · intro g cap w' h1 h2 _ _
   refine h g cap w' ?_ h2
   unfold ownsW
   rw [List.length_append,wrsC_app]
   exact h1
theorem ownsW_none (w:World):ownsW (w.alloc (.cells #[] 25)) w.heap.size (.slice (some ⟨w.heap.size,0,none⟩) 0 0) [] :=
 ⟨rfl,.inr ⟨w.heap.size,0,#[],rfl,Nat.le_refl _,heap_alloc_new w _,Nat.le_refl _,Nat.zero_le _,rfl,rfl⟩⟩
set_option maxRecDepth 100000 in
set_option maxHeartbeats 4000000 in
theorem clone_wrs (v:Value) (l:List Wr) (w:World) (hv:IsWrs w v l) (h0:0 < l.length) (h6:l.length≤1000000) :
   Calls Tryz.prog 11 #[v] w fun e w'=>∃ v',e=.returned v'∧ownsW w' w.heap.size v' l∧Below w.heap.size w w':=by
 rcases hv with ⟨a,c,rfl,rfl⟩ | ⟨b,off,c,rfl,h1,h2,h3⟩
 · exact absurd h0 (Nat.lt_irrefl _)
 · have H3:=Lib.hid h3
   obtain ⟨n,hn⟩:∃ n,n=l.length:=⟨_,rfl⟩
   rw [←hn] at h1 h0 h6 ⊢
   have HN:=Lib.hid hn
   clear h3 hn
   have heq:∀ w:World,(binOp BinOp.eql 36 (.slice (some ⟨b,off,none⟩) n c) (.slice none 0 0)).run Tryz.prog w=.ok (.bool false) w:=fun w=>Go.Lib.run_eql_slice_nil w _ _ (some ⟨b,off,none⟩) n c 0 0 Tryz.underlying36
   go_enter Tryz.func11,Tryz.ntmps11
   go_wp2_with (at_builtin;refine wpList_append_wrs rfl _ _ rfl w.heap.size _ [] rfl (ownsW_none w) b off c n rfl l HN.out ?c1 ?c2 ?c3 ?c4 ?_)
   case c1=>exact fun j u hj=>(World.cell?_alloc_lt w _ (⟨b,off + j,none⟩:Addr) h2).trans (H3.out j u hj)
   case c2=>have:=HN.out;omega
   case c3=>have:=HN.out;simp;omega
   case c4=>simp
   intro g cap w' ho hg
   have HO:=Lib.hid ho
   have HB:Hid (Below w.heap.size w w'):=Lib.hid (((Below.refl _ _).alloc (Nat.le_refl _) _).grown hg (by simp) (fun k hk=>by
     have e:w.heap.size=k:=by simpa [Value.ownBlock] using hk
     omega))
   clear ho hg
   go_wp2
   go_ret
   exact ⟨_,rfl,by simpa using HO.out,HB.out⟩
end Go.Proofs.YtifbebhgeheooaaGreatDoor
namespace Go.Proofs.YtifbebhgeheooaaGreatDoor
open Go.RowKit
instance : DecidableEq Wr := fun a b => decidable_of_iff (a.time = b.time ∧ a.rep = b.rep ∧ a.kind = b.kind ∧ a.key = b.key ∧ a.value = b.value ∧ a.n = b.n) (by cases a; cases b; simp)
theorem wq_step {l m:List Wr} {k:Nat} (h:l.take k=m.take k) {t u:Wr} (hl:l[k]? = some t) (hm:m[k]? = some u) (e:t=u):l.take (k + 1)=m.take (k + 1):=by
 obtain ⟨h1,h2⟩:=List.getElem?_eq_some_iff.1 hl
 obtain ⟨h3,h4⟩:=List.getElem?_eq_some_iff.1 hm
 rw [List.take_succ_eq_append_getElem h1,List.take_succ_eq_append_getElem h3,h,h2,h4,e]
set_option maxRecDepth 100000 in
set_option maxHeartbeats 4000000 in
theorem equal_wrs (v1 v2:Value) (l m:List Wr) (w:World) (h1:IsWrs w v1 l) (h2:IsWrs w v2 m) (hl:l.length≤9223372036854775807) (hm:m.length≤9223372036854775807) :
   Calls Tryz.prog 14 #[v1,v2] w fun e w'=>e=.returned (.bool (decide (l=m)))∧∃ q,w'=w.drewN q:=by
 obtain ⟨a1,c1,rfl,f1⟩:=h1.form
 obtain ⟨a2,c2,rfl,f2⟩:=h2.form
 have F1:=Lib.hid f1
 have F2:=Lib.hid f2
 obtain ⟨n,hn⟩:∃ n,n=l.length:=⟨_,rfl⟩
 obtain ⟨n2,hn2⟩:∃ n,n=m.length:=⟨_,rfl⟩
 rw [←hn] at hl ⊢
 rw [←hn2] at hm ⊢
 have HN:=Lib.hid hn
 have HN2:=Lib.hid hn2
 clear h1 h2 f1 f2 hn hn2
 by_cases hne:n=n2
 · subst hne
   go_enter Tryz.func14,Tryz.ntmps14
   go_wp2
   go_loopw [13] (fun i wr=>∃ k q:Nat,k≤n∧i=.int .i64 k∧l.take k=m.take k∧wr=w.drewN q) (fun i _=>n - (intOf i).toNat)
   case atStart=>exact ⟨0,0,by omega,rfl,rfl,rfl⟩
   case round =>
     obtain ⟨k,q,hk,rfl,htk,rfl⟩:=hrel
     have HTK:=Lib.hid htk
     clear htk
     by_cases hlt:k < n
     · obtain ⟨t, ht⟩ : ∃ t, l[k]? = some t := ⟨l[k]'(by have := HN.out; omega), List.getElem?_eq_getElem _⟩
       obtain ⟨u, hu⟩ : ∃ u, m[k]? = some u := ⟨m[k]'(by have := HN2.out; omega), List.getElem?_eq_getElem _⟩
       obtain ⟨b1,o1,rfl,_,p0,p1,p2,p3,p4,p5⟩:=F1.out k t ht
       obtain ⟨b2,o2,rfl,_,q0,q1,q2,q3,q4,q5⟩:=F2.out k u hu
       have HTT:=Lib.hid ht
       have HUU:=Lib.hid hu
       clear ht hu
       obtain ⟨T1,R1,K1,key1,val1,N1⟩:=t
       obtain ⟨T2,R2,K2,key2,val2,N2⟩:=u
       simp only at p0 p1 p2 p3 p4 p5 q0 q1 q2 q3 q4 q5
       by_cases he0:T1=T2
       · subst he0
         by_cases he1:R1=R2
         · subst he1
           by_cases he2:K1=K2
           · subst he2
             by_cases he3:key1=key2
             · subst he3
               by_cases he4:val1=val2
               · subst he4
                 by_cases he5:N1=N2
                 · subst he5
                   have HST:=Lib.hid (wq_step HTK.out HTT.out HUU.out rfl)
                   go_wp2
                   go_quiet (fail)
                   go_wp2
                   go_roundw
                   case rel=>exact ⟨k + 1,_,by omega,by go_num,HST.out,rfl⟩
                   case measure=>simp [intOf];omega
                 · have HE : Hid (decide (l = m) = false) := Lib.hid (show decide (l = m) = false by
                     rw [decide_eq_false_iff_not];rintro rfl
                     have:=HTT.out.symm.trans HUU.out
                     simp only [Option.some.injEq,Wr.mk.injEq] at this
                     exact he5 this.2.2.2.2.2)
                   have x1:(N1 == N2)=false:=by simpa using he5
                   have x2:(N1 != N2)=true:=by simpa using he5
                   go_wp2
                   go_quiet (fail)
                   go_wp2
                   go_ret
                   exact ⟨by rw [HE.out];rfl,by first | exact ⟨_,rfl⟩ | exact ⟨_,by rw [World.drewN_drewN]⟩⟩
               · have HE : Hid (decide (l = m) = false) := Lib.hid (show decide (l = m) = false by
                   rw [decide_eq_false_iff_not];rintro rfl
                   have:=HTT.out.symm.trans HUU.out
                   simp only [Option.some.injEq,Wr.mk.injEq] at this
                   exact he4 this.2.2.2.2.1)
                 have x1:(val1.toList == val2.toList)=false:=by rw [ByteArray.toList_eq,ByteArray.toList_eq,beq_eq_false_iff_ne];intro e9;exact he4 (bytes_ext e9)
                 have x2:(val1.toList != val2.toList)=true:=by rw [bne,x1];rfl
                 go_wp2
                 go_quiet (fail)
                 go_wp2
                 go_ret
                 exact ⟨by rw [HE.out];rfl,by first | exact ⟨_,rfl⟩ | exact ⟨_,by rw [World.drewN_drewN]⟩⟩
             · have HE : Hid (decide (l = m) = false) := Lib.hid (show decide (l = m) = false by
                 rw [decide_eq_false_iff_not];rintro rfl
                 have:=HTT.out.symm.trans HUU.out
                 simp only [Option.some.injEq,Wr.mk.injEq] at this
                 exact he3 this.2.2.2.1)
               have x1:(key1.toList == key2.toList)=false:=by rw [ByteArray.toList_eq,ByteArray.toList_eq,beq_eq_false_iff_ne];intro e9;exact he3 (bytes_ext e9)
               have x2:(key1.toList != key2.toList)=true:=by rw [bne,x1];rfl
               go_wp2
               go_quiet (fail)
               go_wp2
               go_ret
               exact ⟨by rw [HE.out];rfl,by first | exact ⟨_,rfl⟩ | exact ⟨_,by rw [World.drewN_drewN]⟩⟩
           · have HE : Hid (decide (l = m) = false) := Lib.hid (show decide (l = m) = false by
               rw [decide_eq_false_iff_not];rintro rfl
               have:=HTT.out.symm.trans HUU.out
               simp only [Option.some.injEq,Wr.mk.injEq] at this
               exact he2 this.2.2.1)
             have x1:(K1 == K2)=false:=by simpa using he2
             have x2:(K1 != K2)=true:=by simpa using he2
             go_wp2
             go_quiet (fail)
             go_wp2
             go_ret
             exact ⟨by rw [HE.out];rfl,by first | exact ⟨_,rfl⟩ | exact ⟨_,by rw [World.drewN_drewN]⟩⟩
         · have HE : Hid (decide (l = m) = false) := Lib.hid (show decide (l = m) = false by
             rw [decide_eq_false_iff_not];rintro rfl
             have:=HTT.out.symm.trans HUU.out
             simp only [Option.some.injEq,Wr.mk.injEq] at this
             exact he1 this.2.1)
           have x1:(R1 == R2)=false:=by simpa using he1
           have x2:(R1 != R2)=true:=by simpa using he1
           go_wp2
           go_quiet (fail)
           go_wp2
           go_ret
           exact ⟨by rw [HE.out];rfl,by first | exact ⟨_,rfl⟩ | exact ⟨_,by rw [World.drewN_drewN]⟩⟩
       · have HE : Hid (decide (l = m) = false) := Lib.hid (show decide (l = m) = false by
           rw [decide_eq_false_iff_not];rintro rfl
           have:=HTT.out.symm.trans HUU.out
           simp only [Option.some.injEq,Wr.mk.injEq] at this
           exact he0 this.1)
         have x1:(T1 == T2)=false:=by simpa using he0
         have x2:(T1 != T2)=true:=by simpa using he0
         go_wp2
         go_quiet (fail)
         go_wp2
         go_ret
         exact ⟨by rw [HE.out];rfl,by first | exact ⟨_,rfl⟩ | exact ⟨_,by rw [World.drewN_drewN]⟩⟩
     · have HE : Hid (decide (l = m) = true) := Lib.hid (show decide (l = m) = true by
         rw [decide_eq_true_eq]
         have h:=HTK.out
         rw [List.take_of_length_le (by have:=HN.out;omega),List.take_of_length_le (by have:=HN2.out;omega)] at h
         exact h)
       go_wp2
       go_ret
       exact ⟨by rw [HE.out];rfl,by first | exact ⟨_,rfl⟩ | exact ⟨_,by rw [World.drewN_drewN]⟩⟩
 · have HE : Hid (decide (l = m) = false) := Lib.hid (show decide (l = m) = false by
     rw [decide_eq_false_iff_not];rintro rfl;exact hne (HN.out.trans HN2.out.symm))
   have x1:((n:Int) == (n2:Int))=false:=by simp;omega
   have x2:((n:Int) != (n2:Int))=true:=by simp;omega
   rw [HE.out]
   go_enter Tryz.func14,Tryz.ntmps14
   go_wp2
   go_ret
   exact ⟨rfl,0,rfl⟩
theorem equalw_as (v1 v2:Value) (l m:List Wr) (c:Bool) (w:World) (h1:IsWrs w v1 l) (h2:IsWrs w v2 m) (hl:l.length≤9223372036854775807) (hm:m.length≤9223372036854775807) (hc:decide (l=m)=c) :
   Calls Tryz.prog 14 #[v1,v2] w fun e w'=>e=.returned (.bool c)∧∃ q,w'=w.drewN q :=
 (equal_wrs v1 v2 l m w h1 h2 hl hm).mono fun _ _ ⟨h1,h2⟩=>⟨by rw [h1,hc],h2⟩
end Go.Proofs.YtifbebhgeheooaaGreatDoor
