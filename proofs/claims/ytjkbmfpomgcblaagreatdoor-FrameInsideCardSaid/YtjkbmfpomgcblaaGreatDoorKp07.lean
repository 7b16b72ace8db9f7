import Derived.Test.YtjkbmfpomgcblaaGreatDoorKp06
import Derived.WalkSpells
import Derived.Laws.Rows
import Derived.Laws.NewBlocks
namespace Go.Proofs.YtjkbmfpomgcblaaGreatDoor
open Go.RowKit
theorem info_wr:(Tryz.prog.info? 59).map (fun i=>(i.zero,i.size,i.bytes))=some (some (.agg #[.int .i64 0,.int .i64 0,.int .i64 0,.string ⟨#[]⟩,.string ⟨#[]⟩,.int .i64 0]),6,64):=by kernel_rfl
instance : Inhabited Wr := ⟨⟨0, 0, 0, ⟨#[]⟩, ⟨#[]⟩, 0⟩⟩
def wrsC (l:List Wr):List Value:=l.flatMap wrC
theorem wrsC_len (l:List Wr):(wrsC l).length=l.length * 6:=by
 induction l with
 | nil=>rfl
 | cons t r ih=>simp only [wrsC,List.flatMap_cons,List.length_append,List.length_cons] at ih ⊢;rw [ih];simp [wrC];omega
theorem wrsC_app (a b:List Wr):wrsC (a ++ b)=wrsC a ++ wrsC b:=by simp [wrsC]
theorem wrsC_one (a:Wr):wrsC [a]=wrC a:=by simp [wrsC]
theorem wrsC_at (l:List Wr) (i j:Nat) (t:Wr) (h:l[i]? = some t) (hj:j < 6):(wrsC l)[i * 6 + j]? = (wrC t)[j]? := by
 induction l generalizing i with
 | nil=>simp at h
 | cons u r ih =>
   have hc:wrsC (u :: r)=wrC u ++ wrsC r:=by simp [wrsC]
   have h3:(wrC u).length=6:=rfl
   rw [hc]
   cases i with
   | zero =>
     obtain rfl:u=t:=by simpa using h
     rw [List.getElem?_append_left (by omega)]
     congr 1;omega
   | succ i =>
     rw [List.getElem?_append_right (by omega),h3,show (i + 1) * 6 + j - 6=i * 6 + j by omega]
     exact ih i (by simpa using h)
theorem wrC_cell (t:Wr):∀ u∈wrC t,u.oneCell'=true:=by
 intro u hu
 simp [wrC] at hu
 rcases hu with rfl | rfl | rfl | rfl | rfl | rfl <;> rfl
def ownsW (w:World) (base:Nat) (v:Value) (l:List Wr):Prop:=w.ownsRow base 59 6 v l.length (wrsC l)
theorem ownsW_nil (w:World) (base:Nat):ownsW w base (.slice none 0 0) []:=World.ownsRow_nil _ _ _ _
theorem ownsW.alloc {w:World} {base:Nat} {v:Value} {l:List Wr} (h:ownsW w base v l) (o:Obj):ownsW (w.alloc o) base v l:=World.ownsRow.alloc h o
theorem ownsW.drew {w:World} {base:Nat} {v:Value} {l:List Wr} (h:ownsW w base v l):ownsW w.drew base v l:=World.ownsRow.drew h
theorem ownsW.drewN {w:World} {base:Nat} {v:Value} {l:List Wr} (h:ownsW w base v l) (n:Nat):ownsW (w.drewN n) base v l:=h
theorem ownsW.lt {w:World} {base:Nat} {v:Value} {l:List Wr} (h:ownsW w base v l):∀ k,v.ownBlock=some k→base≤k∧k < w.heap.size:=World.ownsRow.lt h
theorem ownsW.mono {w:World} {base base':Nat} {v:Value} {l:List Wr} (h:ownsW w base v l) (hb:base'≤base):ownsW w base' v l:=by
 obtain ⟨h0,h1⟩:=h
 refine ⟨h0,?_⟩
 rcases h1 with h1 | ⟨g,cap,cur,hv,hg,r⟩
 · exact .inl h1
 · exact .inr ⟨g,cap,cur,hv,Nat.le_trans hb hg,r⟩
theorem ownsW.below {w w':World} {base:Nat} {v:Value} {l:List Wr} (h:ownsW w base v l) (hb:Below w.heap.size w w'):ownsW w' base v l:=by
 refine World.ownsRow.kept h (row:=none) ⟨hb.os,hb.tape,hb.output,hb.size,fun k hk _=>hb.block k hk⟩ ?_
 cases hv:v.ownBlock with
 | none=>exact .inl rfl
 | some g=>exact .inr (by simp)
def IsWrs (w:World) (v:Value) (l:List Wr):Prop :=
 (∃ a c,v=.slice a 0 c∧l=[])∨∃ b off c,v=.slice (some ⟨b,off,none⟩) l.length c∧(0 < l.length∧l.length≤c)∧b < w.heap.size∧∀ j u,(wrsC l)[j]? = some u→w.cell? ⟨b,off + j,none⟩=some u
theorem ownsW.is {w:World} {base:Nat} {v:Value} {l:List Wr} (h:ownsW w base v l):IsWrs w v l:=by
 have hall:=h
 have hlt:=h.lt
 obtain ⟨h0,h1⟩:=h
 rcases h1 with ⟨rfl,hn⟩ | ⟨g,cap,cur,rfl,hb,hh,hc,hm,hs,ht⟩
 · exact .inl ⟨_,_,rfl,List.length_eq_zero_iff.1 hn⟩
 · by_cases hz:l.length=0
   · exact .inl ⟨_,_,by rw [hz],List.length_eq_zero_iff.1 hz⟩
   · refine .inr ⟨g,0,cap,rfl,⟨by omega,hc⟩,(hlt g rfl).2,fun j u hj=>?_⟩
     have hjl:j < l.length * 6:=by rw [←wrsC_len];exact (List.getElem?_eq_some_iff.1 hj).1
     rw [Nat.zero_add,World.ownsRow.cellAt hall j hjl]
     exact hj
theorem IsWrs.nil (w:World):IsWrs w (.slice none 0 0) []:=.inl ⟨_,_,rfl,rfl⟩
theorem IsWrs.below {w w':World} {v:Value} {l:List Wr} (h:IsWrs w v l) (hb:Below w.heap.size w w'):IsWrs w' v l:=by
 rcases h with ⟨a,c,h1,h2⟩ | ⟨b,off,c,h1,h0,h2,h3⟩
 · exact .inl ⟨a,c,h1,h2⟩
 · exact .inr ⟨b,off,c,h1,h0,Nat.lt_of_lt_of_le h2 hb.size,fun j u hj=>(hb.cell (p:=⟨b,off + j,none⟩) h2).trans (h3 j u hj)⟩
theorem IsWrs.alloc {w:World} {v:Value} {l:List Wr} (h:IsWrs w v l) (o:Obj):IsWrs (w.alloc o) v l:=h.below ((Below.refl _ _).alloc (Nat.le_refl _) o)
theorem IsWrs.drewN {w:World} {v:Value} {l:List Wr} (h:IsWrs w v l) (n:Nat):IsWrs (w.drewN n) v l:=h
theorem IsWrs.form {w:World} {v:Value} {l:List Wr} (h:IsWrs w v l):∃ a c,v=.slice a l.length c∧∀ i t,l[i]? = some t→∃ b off,a=some ⟨b,off,none⟩∧b < w.heap.size ∧
   w.cell? ⟨b,off + i * 6,none⟩=some (.int .i64 t.time)∧w.cell? ⟨b,off + i * 6 + 1,none⟩=some (.int .i64 t.rep)∧w.cell? ⟨b,off + i * 6 + 2,none⟩=some (.int .i64 t.kind) ∧
   w.cell? ⟨b,off + i * 6 + 3,none⟩=some (.string t.key)∧w.cell? ⟨b,off + i * 6 + 4,none⟩=some (.string t.value)∧w.cell? ⟨b,off + i * 6 + 5,none⟩=some (.int .i64 t.n):=by
 rcases h with ⟨a,c,rfl,rfl⟩ | ⟨b,off,c,rfl,h0,h2,h3⟩
 · exact ⟨a,c,rfl,fun i t h=>by simp at h⟩
 · refine ⟨_,_,rfl,fun i t h=>⟨b,off,rfl,h2,?_,?_,?_,?_,?_,?_⟩⟩
   · exact h3 _ _ ((wrsC_at l i 0 t h (by omega)).trans rfl)
   · exact h3 _ _ ((wrsC_at l i 1 t h (by omega)).trans rfl)
   · exact h3 _ _ ((wrsC_at l i 2 t h (by omega)).trans rfl)
   · exact h3 _ _ ((wrsC_at l i 3 t h (by omega)).trans rfl)
   · exact h3 _ _ ((wrsC_at l i 4 t h (by omega)).trans rfl)
   · exact h3 _ _ ((wrsC_at l i 5 t h (by omega)).trans rfl)
def wrBlk (w:World) (B:Nat) (t:Wr):Prop:=w.heap[B]? = some (.cells (wrC t).toArray 59 (0,0))
theorem wrBlk_is {w:World} {B:Nat} {t:Wr} (h:wrBlk w B t):IsWrs w (.slice (some ⟨B,0,none⟩) 1 1) [t]:=by
 refine .inr ⟨B,0,1,rfl,⟨Nat.zero_lt_one,Nat.le_refl 1⟩,(Array.getElem?_eq_some_iff.1 h).1,fun j u hj=>?_⟩
 rw [Nat.zero_add,cell_of_row _ _ j _ _ (0,0) h]
 rw [wrsC_one] at hj
 simpa using hj
theorem wpList_append_wr {w:World} {ops:Array Oper} {rest:List Oper} {o:Oper} {a:Act} {Q:Exit→Act→World→Prop} (hgd:o.guard=none) (s x:Operand)
   (ho:o.op=.call { callee:=.builtin .append,args:=#[s,x],argTypes:=#[23,23] })
   (base:Nat) (v:Value) (l:List Wr) (hs:a.eval s=v) (hown:ownsW w base v l)
   (B c:Nat) (hx:a.eval x=.slice (some ⟨B,0,none⟩) 1 c) (t:Wr) (hcell:wrBlk w B t)
   (hlen:l.length + 1≤1000000) (hbase:base≤w.heap.size)
   (h:∀ g cap w',ownsW w' base (.slice (some ⟨g,0,none⟩) (l.length + 1) cap) (l ++ [t])→w.grownBy w' v.ownBlock→wpList Tryz.prog ops Q rest (a.put o.dst (.slice (some ⟨g,0,none⟩) (l.length + 1) cap)) w'):wpList Tryz.prog ops Q (o :: rest) a w:=by
 obtain ⟨i0,hi,hz0,hz1,hz2⟩:=info_parts info_wr
 refine wpList_append_lies w hgd s x 23 ho base 59 i0 (.agg #[.int .i64 0,.int .i64 0,.int .i64 0,.string ⟨#[]⟩,.string ⟨#[]⟩,.int .i64 0]) 6 64 Tryz.underlying23 hi hz0 hz1 hz2 rfl (by decide) v l.length (wrsC l) hs hown ⟨B,0,none⟩ 1 c (wrC t) hx rfl ?_ (wrC_cell t) (by decide) (by unfold maxLen;omega) (by omega) hbase _ rfl ?_
 · intro j u hj
   have hadd:(⟨B,0,none⟩:Addr).add j=⟨B,j,none⟩:=by unfold Addr.add;split <;> simp_all
   rw [hadd,cell_of_row _ _ _ _ _ _ hcell,←hj]
   simp
 · intro g cap w' h1 h2 _ _
   refine h g cap w' ?_ h2
   unfold ownsW
   rw [List.length_append,wrsC_app,wrsC_one]
   exact h1
end Go.Proofs.YtjkbmfpomgcblaaGreatDoor
namespace Go.Proofs.YtjkbmfpomgcblaaGreatDoor
open Go.RowKit
def TokensIs (w:World) (l:List Tok) (e:Ending) (w':World):Prop :=
 ∃ v,e=.returned v∧ownsK w' w.heap.size v l∧Below w.heap.size w w'
set_option maxRecDepth 100000 in
set_option maxHeartbeats 2000000 in
theorem tokens_any (s:ByteArray) (w:World) (hs:s.size≤400000) :
   Calls Tryz.prog 142 #[.string s] w (TokensIs w (toks s.data.toList)):=by
 have HS : Hid (s.size ≤ maxLen) := by have h : s.size ≤ maxLen := by unfold maxLen; omega
                                       exact h
 have hlen:s.data.toList.length=s.size:=(size_data s).symm
 have HL:=Lib.hid hlen
 clear hlen
 go_enter Tryz.func142,Tryz.ntmps142
 go_wp2
 go_loopw [3,4,5] (fun v fr a wr=>∃ (f fr' a':Nat) (acc:List Tok),fr=.int .i64 fr'∧a=.int .i64 a'∧fr'≤a'∧a'≤s.size∧s.size≤a' + f∧acc.length≤2 * a'∧toks s.data.toList=acc ++ tks s.data.toList f fr' a'∧ownsK wr w.heap.size v acc∧Below w.heap.size w wr) (fun _ _ a _=>s.size - (intOf a).toNat)
 case atStart=>exact ⟨s.size,0,0,[],rfl,rfl,Nat.le_refl _,Nat.zero_le _,by omega,by simp,by unfold toks;rw [HL.out];rfl,ownsK_nil _ _,Below.refl _ _⟩
 case round =>
   obtain ⟨f,fr,a,acc,rfl,rfl,hfa,ha,hf,hac,heq,hown,hbel⟩:=hrel
   have HEQ:=Lib.hid heq
   have HOWN:=Lib.hid hown
   have HBEL:=Lib.hid hbel
   clear heq hown hbel
   by_cases hlt:a < s.size
   · obtain ⟨f,rfl⟩:∃ f',f=f' + 1:=⟨f - 1,by omega⟩
     have hl:a < s.data.toList.length:=by rw [HL.out];exact hlt
     rcases find_cases s.data.toList a with ⟨hz,_⟩ | ⟨b,n,hfn,_,hb1,hb2,hb3,hn1,hn2,hn3,_⟩
     · have HR : Hid (findV (find s.data.toList a) = .tuple #[.int .i64 0, .int .i64 0]) := by
         have h:findV (find s.data.toList a)=.tuple #[.int .i64 0,.int .i64 0]:=by rw [hz];rfl
         exact h
       have HN:Hid (toks s.data.toList=acc ++ tks s.data.toList f fr (a + 1)):=by
         have h:toks s.data.toList=acc ++ tks s.data.toList f fr (a + 1):=by rw [HEQ.out,tks_step hl (by rw [hz])]
         exact h
       clear hz hl HEQ
       go_wp2_with fail
       refine (find_nat s a _ HS.out hlt).mono ?_
       rintro e w1 ⟨rfl,q1,rfl⟩
       rw [HR.out]
       go_wp2
       go_roundw
       case rel=>exact ⟨f,fr,a + 1,acc,rfl,by go_num,by omega,by omega,by omega,by omega,HN.out,HOWN.out.drewN _,below_drewN HBEL.out _⟩
       case measure=>simp [intOf];omega
     · rw [HL.out] at hn3
       have HR:Hid (findV (find s.data.toList a)=.tuple #[.int .i64 b,.int .i64 n]):=by
         have h:findV (find s.data.toList a)=.tuple #[.int .i64 b,.int .i64 n]:=by rw [hfn];rfl
         exact h
       have hn0:((n:Int) == 0)=false:=by simp;omega
       have hxs:(s.extract fr a).size≤140737488351232:=by rw [ByteArray.size_extract];omega
       have HXS:=Lib.hid hxs
       obtain ⟨L1,hL1⟩:∃ L1,acc ++ ownT (s.extract fr a).data.toList=L1:=⟨_,rfl⟩
       have hol:(acc ++ ownT (s.extract fr a).data.toList).length≤2 * a + 1:=by
         rw [List.length_append]
         have:(ownT (s.extract fr a).data.toList).length≤1:=by unfold ownT;split <;> simp
         omega
       rw [hL1] at hol
       have HOL:=Lib.hid hol
       have HN:Hid (toks s.data.toList=(L1 ++ [repT b n]) ++ tks s.data.toList f (a + n) (a + n)):=by
         have h:toks s.data.toList=(L1 ++ [repT b n]) ++ tks s.data.toList f (a + n) (a + n):=by
           rw [HEQ.out,tks_rep hl hfn (by omega),←hL1,ext_data];simp
         exact h
       have HL1:=Lib.hid hL1
       clear hL1
       have HAC : Hid (acc.length ≤ 999999) := by have h : acc.length ≤ 999999 := by omega
                                                  exact h
       clear hfn hl HEQ hxs hol
       have e1:(fr:Int)≤(a:Int):=by omega
       have e2:(a:Int)≤(s.size:Int):=by omega
       go_wp2_with fail
       refine (find_nat s a _ HS.out hlt).mono ?_
       rintro e w1 ⟨rfl,q1,rfl⟩
       rw [HR.out]
       go_wp2_with fail
       refine (own_any _ acc _ w.heap.size (wr.drewN q1) HXS.out HBEL.out.size (HOWN.out.drewN _) HAC.out).mono ?_
       rintro r w1 ⟨v1,rfl,ho1,hb1⟩
       rw [HL1.out] at ho1
       have hb2:Below w.heap.size w w1:=(below_drewN HBEL.out q1).trans hb1
       have HB2:=Lib.hid hb2
       have HO1:=Lib.hid ho1
       have hz1:=hb2.size
       have HOL1:Hid (L1.length + 1≤1000000):=by
         have h:L1.length + 1≤1000000:=by have:=HOL.out;omega
         exact h
       clear hb1 hb2 ho1 HOWN HBEL
       go_wp2_with (at_builtin;refine wpList_append_tok rfl _ _ rfl w.heap.size _ L1 rfl (HO1.out.alloc _) w1.heap.size 1 rfl (repT b n) ?c1 ?c2 ?c3 ?_)
       case c1=>exact tokBlk_new _ _ _ _
       case c2=>exact HOL1.out
       case c3=>simp;omega
       · intro g cap w2 ho2 hg2
         have HB3:Hid (Below w.heap.size w w2):=(HB2.out.alloc hz1 _).grown hg2 (by simp;omega) (fun g hg=>(HO1.out.lt g hg).1)
         have HO2:=Lib.hid ho2
         clear ho2 hg2
         go_wp2
         go_roundw
         case rel=>exact ⟨f,a + n,a + n,_,by go_num,by go_num,Nat.le_refl _,by omega,by omega,by rw [List.length_append];simp only [List.length_singleton];have:=HOL.out;omega,HN.out,HO2.out,HB3.out⟩
         case measure=>simp [intOf];omega
   · obtain rfl:a=s.size:=by omega
     have hxs:(s.extract fr s.size).size≤140737488351232:=by rw [ByteArray.size_extract];omega
     have HXS:=Lib.hid hxs
     have HN:Hid (toks s.data.toList=acc ++ ownT (s.extract fr s.size).data.toList):=by
       have h:toks s.data.toList=acc ++ ownT (s.extract fr s.size).data.toList:=by
         rw [HEQ.out,tks_end (by rw [HL.out];omega),ext_data]
       exact h
     have HAC : Hid (acc.length ≤ 999999) := by have h : acc.length ≤ 999999 := by omega
                                                exact h
     clear hxs HEQ
     go_wp2_with fail
     refine (own_any _ acc _ w.heap.size wr HXS.out HBEL.out.size HOWN.out HAC.out).mono ?_
     rintro r w1 ⟨v1,rfl,ho1,hb1⟩
     have HO1:=Lib.hid ho1
     have HB1:Hid (Below w.heap.size w w1):=HBEL.out.trans hb1
     clear ho1 hb1
     go_wp2
     go_ret
     exact ⟨_,rfl,by rw [HN.out];exact HO1.out,HB1.out⟩
end Go.Proofs.YtjkbmfpomgcblaaGreatDoor
namespace Go.Proofs.YtjkbmfpomgcblaaGreatDoor
open Go.RowKit
def tailC (n k:Nat):Array Value:=((List.range 4).map fun i=>Value.int .u8 (if i < k then (n:Int) / 2 ^ (8 * i) % 256 else 0)).toArray
theorem tailC_size (n k:Nat):(tailC n k).size=4:=by simp [tailC]
theorem tailC_at (n k i:Nat) (h:i < 4):(tailC n k)[i]? = some (.int .u8 (if i < k then (n:Int) / 2 ^ (8 * i) % 256 else 0)):=by
 unfold tailC
 simp [h]
theorem tailC_set (n k:Nat) (hk:k < 4):(tailC n k).setIfInBounds k (.int .u8 ((n:Int) / 2 ^ (8 * k) % 256))=tailC n (k + 1):=by
 apply Array.ext_getElem?
 intro i
 rw [Array.getElem?_setIfInBounds,tailC_size]
 by_cases hi:i < 4
 · by_cases e:k=i
   · subst e;rw [if_pos rfl,if_pos hk,tailC_at _ _ k hi,if_pos (by omega)]
   · rw [if_neg e,tailC_at _ _ i hi,tailC_at _ _ i hi]
     by_cases h2:i < k
     · rw [if_pos h2,if_pos (by omega)]
     · rw [if_neg h2,if_neg (by omega)]
 · rw [Array.getElem?_eq_none (by rw [tailC_size];omega),Array.getElem?_eq_none (by rw [tailC_size];omega),if_neg (by omega)]
theorem tail4_at (n j:Nat) (h:j < (tail4 n).length):((tail4 n)[j].toNat:Int)=(n:Int) / 2 ^ (8 * j) % 256:=by
 have e:∀ m:Nat,((UInt8.ofNat m).toNat:Int)=((m % 256:Nat):Int):=fun m=>by simp
 match j,h with
 | 0,_=>show ((UInt8.ofNat n).toNat:Int)=_;rw [e];simp
 | 1,_=>show ((UInt8.ofNat (n / 256)).toNat:Int)=_;rw [e];simp
 | 2,_=>show ((UInt8.ofNat (n / 65536)).toNat:Int)=_;rw [e];simp
 | 3,_=>show ((UInt8.ofNat (n / 16777216)).toNat:Int)=_;rw [e];simp
 | j + 4,h=>exact absurd h (by simp [tail4])
theorem tail_conv (n:Nat) (w:World):(convert 60 9 (.slice (some ⟨w.heap.size,0,none⟩) 4 4)).run Tryz.prog (w.alloc (.cells (tailC n 4) 135))=.ok (.string ⟨(tail4 n).toArray⟩) (w.alloc (.cells (tailC n 4) 135)):=by
 refine run_convert_bytes_back _ _ _ _ _ _ (tail4 n) Tryz.underlying60 Tryz.underlying5 Tryz.underlying9 fun j hj=>?_
 have hadd:(⟨w.heap.size,0,none⟩:Addr).add j=⟨w.heap.size,j,none⟩:=by unfold Addr.add;split <;> simp_all
 have h4:j < 4:=hj
 rw [hadd,cell_of_row _ _ _ _ _ _ (heap_alloc_new w _),tailC_at _ _ _ h4,if_pos h4,tail4_at n j hj]
set_option maxRecDepth 100000 in
set_option maxHeartbeats 1000000 in
theorem tail_any (s:ByteArray) (w:World) (hs:s.size≤maxLen) :
   Calls Tryz.prog 60 #[.string s] w fun e w'=>e=.returned (.string ⟨(tail4 (sum s.data.toList)).toArray⟩)∧Below w.heap.size w w':=by
 have hl:=sum_lt s.data.toList
 go_enter Tryz.func60,Tryz.ntmps60
 go_wp2_with fail
 refine (sum_any _ _ hs).mono ?_
 rintro e w' ⟨rfl,rfl⟩
 obtain ⟨n,hn⟩:∃ n,n=sum s.data.toList:=⟨_,rfl⟩
 rw [←hn] at hl ⊢
 have HN:=Lib.hid hn
 clear hn
 go_wp2
 go_loopw [8] (fun i wr=>∃ k:Nat,k≤4∧i=.int .i64 k∧wr=w.alloc (.cells (tailC n k) 135)) (fun i _=>4 - (intOf i).toNat)
 case atStart=>exact ⟨0,by omega,rfl,rfl⟩
 case round =>
   obtain ⟨k,hk,rfl,rfl⟩:=hrel
   by_cases hlt:k < 4
   · have hc:=tailC_at n k k hlt
     rw [if_neg (Nat.lt_irrefl k)] at hc
     have hz:=tailC_set n k hlt
     go_wp2
     go_roundw
     case rel=>exact ⟨k + 1,by omega,by go_num,rfl⟩
     case measure=>simp [intOf];omega
   · obtain rfl:k=4:=by omega
     have hconv:=tail_conv n w
     go_wp2
     go_ret
     exact ⟨by rw [HN.out];rfl,(Below.refl _ _).alloc (Nat.le_refl _) _⟩
def sealB (s:ByteArray):ByteArray:=s ++ ⟨(tail4 (sum s.data.toList)).toArray⟩
theorem sealB_data (s:ByteArray):(sealB s).data.toList=sealL s.data.toList:=by unfold sealB sealL;simp
set_option maxRecDepth 100000 in
set_option maxHeartbeats 1000000 in
theorem seal_any (s:ByteArray) (w:World) (hs:s.size≤140737488351232) :
   Calls Tryz.prog 27 #[.string s] w fun e w'=>e=.returned (.string (sealB s))∧Below w.heap.size w w':=by
 have hz:(⟨(tail4 (sum s.data.toList)).toArray⟩:ByteArray).size=4:=rfl
 go_enter Tryz.func27,Tryz.ntmps27
 go_wp2_with fail
 refine (tail_any s _ (by unfold maxLen;omega)).mono ?_
 rintro e w1 ⟨rfl,hb1⟩
 have HB:=Lib.hid hb1
 clear hb1
 go_wp2
 go_ret
 exact ⟨rfl,HB.out⟩
end Go.Proofs.YtjkbmfpomgcblaaGreatDoor
namespace Go.Proofs.YtjkbmfpomgcblaaGreatDoor
open Go.RowKit
theorem sum_known:sum [49,50,51,52,53,54,55,56,57]=3808858755:=by decide +kernel
theorem more_known:more (sum [49,50,51,52]) [53,54,55,56,57]=3808858755:=by decide +kernel
set_option maxRecDepth 100000 in
set_option maxHeartbeats 400000 in
theorem summed_any (w:World) :
   Calls Tryz.prog 24 #[] w fun e w'=>e=.returned (.bool true)∧w=w':=by
 have h1:=sum_known
 have h2:=sum_nil
 have h3:=more_known
 have h4:=sum_lt [49,50,51,52]
 go_enter Tryz.func24,Tryz.ntmps24
 go_wp2_with (first | (go_at_call 55;refine (sum_any _ _ (by decide)).mono ?_;rintro e w' ⟨rfl,rfl⟩) | (go_at_call 56;refine (more_any _ _ _ (Int.natCast_nonneg _) (by omega) (by decide)).mono ?_;rintro e w' ⟨rfl,rfl⟩;rw [Int.toNat_natCast]))
 go_ret
 exact ⟨rfl,rfl⟩
end Go.Proofs.YtjkbmfpomgcblaaGreatDoor
namespace Go.Proofs.YtjkbmfpomgcblaaGreatDoor
open Go.RowKit
theorem shr_cast (n k:Nat):(n:Int) / 2 ^ k=((n / 2 ^ k:Nat):Int):=by simp
end Go.Proofs.YtjkbmfpomgcblaaGreatDoor
namespace Go.Proofs.YtjkbmfpomgcblaaGreatDoor
open Go.RowKit
def hasV (K:Int):Bool:=decide (K=1) || decide (K=4)
def hasN (K:Int):Bool:=decide (K=3) || decide (K=4)
def idOk (T R:Int):Bool:=decide (1≤T∧T≤1099511627776∧0≤R∧R≤200)
def fitsN (K N:Int):Bool:=if K=3 then decide (-1125899906842624≤N) && decide (N≤1125899906842624) else if K=4 then decide (0≤N) && decide (N≤1000) else true
def wriE (T R K:Int) (key val:ByteArray) (N:Int):Nat :=
 if K < 1∨4 < K then 1 else if idOk T R=false then 2 else if 40 < key.size∨300 < val.size then 4 else if (0 < val.size∧hasV K=false)∨(N≠0∧hasN K=false) then 3 else if fitsN K N=false then 2 else 0
theorem wriE_kind {T R K:Int} {key val:ByteArray} {N:Int} (h:K < 1∨4 < K):wriE T R K key val N=1:=if_pos h
theorem wriE_id {T R K:Int} {key val:ByteArray} {N:Int} (h:¬ (K < 1∨4 < K)) (h1:idOk T R=false):wriE T R K key val N=2:=by unfold wriE;rw [if_neg h,if_pos h1]
theorem wriE_size {T R K:Int} {key val:ByteArray} {N:Int} (h:¬ (K < 1∨4 < K)) (h1:idOk T R=true) (h2:40 < key.size∨300 < val.size):wriE T R K key val N=4:=by
 unfold wriE;rw [if_neg h,if_neg (by rw [h1];decide),if_pos h2]
theorem wriE_rest {T R K:Int} {key val:ByteArray} {N:Int} (h:¬ (K < 1∨4 < K)) (h1:idOk T R=true) (h2:¬ (40 < key.size∨300 < val.size)) :
   wriE T R K key val N=if ((decide (0 < val.size) && !hasV K) || (decide (N≠0) && !hasN K))=true then 3 else if fitsN K N=true then 0 else 2:=by
 unfold wriE
 rw [if_neg h,if_neg (by rw [h1];decide),if_neg h2]
 cases hasV K <;> cases hasN K <;> cases fitsN K N <;> simp
theorem empty_of {s:ByteArray} (h:¬ 0 < s.size):s=⟨#[]⟩:=by
 cases s with
 | mk d => have : d.size = 0 := by have h2 : ¬ 0 < d.size := h; omega
           rw [Array.eq_empty_of_size_eq_zero this]
theorem bne_empty {s:ByteArray} (h:0 < s.size):(s.toList != [])=true:=by
 rw [ByteArray.toList_eq,bne_iff_ne]
 intro e
 have:s.data.toList.length=0:=by rw [e];rfl
 have h2:s.data.toList.length=s.size:=Array.length_toList
 omega
theorem wriE_good {T R K:Int} {key val:ByteArray} {N:Int} (h:wriE T R K key val N=0) :
   ¬ (K < 1∨4 < K)∧idOk T R=true∧key.size≤40∧val.size≤300∧¬ ((0 < val.size∧hasV K=false)∨(N≠0∧hasN K=false))∧fitsN K N=true:=by
 unfold wriE at h
 split at h
 · simp at h
 · split at h
   · simp at h
   · split at h
     · simp at h
     · split at h
       · simp at h
       · split at h
         · simp at h
         · rename_i h1 h2 h3 h4 h5
           exact ⟨h1,by simpa using h2,by omega,by omega,h4,by simpa using h5⟩
end Go.Proofs.YtjkbmfpomgcblaaGreatDoor
namespace Go.Proofs.YtjkbmfpomgcblaaGreatDoor
open Go.RowKit
instance : DecidableEq Wr := fun a b => decidable_of_iff (a.time = b.time ∧ a.rep = b.rep ∧ a.kind = b.kind ∧ a.key = b.key ∧ a.value = b.value ∧ a.n = b.n) (by cases a; cases b; simp)
theorem wq_step {l m:List Wr} {k:Nat} (h:l.take k=m.take k) {t u:Wr} (hl:l[k]? = some t) (hm:m[k]? = some u) (e:t=u):l.take (k + 1)=m.take (k + 1):=by
 obtain ⟨h1,h2⟩:=List.getElem?_eq_some_iff.1 hl
 obtain ⟨h3,h4⟩:=List.getElem?_eq_some_iff.1 hm
 rw [List.take_succ_eq_append_getElem h1,List.take_succ_eq_append_getElem h3,h,h2,h4,e]
set_option maxRecDepth 100000 in
set_option maxHeartbeats 4000000 in
theorem equal_wrs (v1 v2:Value) (l m:List Wr) (w:World) (h1:IsWrs w v1 l) (h2:IsWrs w v2 m) (hl:l.length≤9223372036854775807) (hm:m.length≤9223372036854775807) :
   Calls Tryz.prog 54 #[v1,v2] w fun e w'=>e=.returned (.bool (decide (l=m)))∧∃ q,w'=w.drewN q:=by
 obtain ⟨a1,c1,rfl,f1⟩:=h1.form
 obtain ⟨a2,c2,rfl,f2⟩:=h2.form
 have F1:=Lib.hid f1
 have F2:=Lib.hid f2
 obtain ⟨n,hn⟩:∃ n,n=l.length:=⟨_,rfl⟩
 obtain ⟨n2,hn2⟩:∃ n,n=m.length:=⟨_,rfl⟩
 rw [←hn] at hl ⊢
 rw [←hn2] at hm ⊢
 have HN:=Lib.hid hn
 have HN2:=Lib.hid hn2
 clear h1 h2 f1 f2 hn hn2
 by_cases hne:n=n2
 · subst hne
   go_enter Tryz.func54,Tryz.ntmps54
   go_wp2
   go_loopw [13] (fun i wr=>∃ k q:Nat,k≤n∧i=.int .i64 k∧l.take k=m.take k∧wr=w.drewN q) (fun i _=>n - (intOf i).toNat)
   case atStart=>exact ⟨0,0,by omega,rfl,rfl,rfl⟩
   case round =>
     obtain ⟨k,q,hk,rfl,htk,rfl⟩:=hrel
     have HTK:=Lib.hid htk
     clear htk
     by_cases hlt:k < n
     · obtain ⟨t, ht⟩ : ∃ t, l[k]? = some t := ⟨l[k]'(by have := HN.out; omega), List.getElem?_eq_getElem _⟩
       obtain ⟨u, hu⟩ : ∃ u, m[k]? = some u := ⟨m[k]'(by have := HN2.out; omega), List.getElem?_eq_getElem _⟩
       obtain ⟨b1,o1,rfl,_,p0,p1,p2,p3,p4,p5⟩:=F1.out k t ht
       obtain ⟨b2,o2,rfl,_,q0,q1,q2,q3,q4,q5⟩:=F2.out k u hu
       have HTT:=Lib.hid ht
       have HUU:=Lib.hid hu
       clear ht hu
       obtain ⟨T1,R1,K1,key1,val1,N1⟩:=t
       obtain ⟨T2,R2,K2,key2,val2,N2⟩:=u
       simp only at p0 p1 p2 p3 p4 p5 q0 q1 q2 q3 q4 q5
       by_cases he0:T1=T2
       · subst he0
         by_cases he1:R1=R2
         · subst he1
           by_cases he2:K1=K2
           · subst he2
             by_cases he3:key1=key2
             · subst he3
               by_cases he4:val1=val2
               · subst he4
                 by_cases he5:N1=N2
                 · subst he5
                   have HST:=Lib.hid (wq_step HTK.out HTT.out HUU.out rfl)
                   go_wp2
                   go_quiet (fail)
                   go_wp2
                   go_roundw
                   case rel=>exact ⟨k + 1,_,by omega,by go_num,HST.out,rfl⟩
                   case measure=>simp [intOf];omega
                 · have HE : Hid (decide (l = m) = false) := Lib.hid (show decide (l = m) = false by
                     rw [decide_eq_false_iff_not];rintro rfl
                     have:=HTT.out.symm.trans HUU.out
                     simp only [Option.some.injEq,Wr.mk.injEq] at this
                     exact he5 this.2.2.2.2.2)
                   have x1:(N1 == N2)=false:=by simpa using he5
                   have x2:(N1 != N2)=true:=by simpa using he5
                   go_wp2
                   go_quiet (fail)
                   go_wp2
                   go_ret
                   exact ⟨by rw [HE.out];rfl,by first | exact ⟨_,rfl⟩ | exact ⟨_,by rw [World.drewN_drewN]⟩⟩
               · have HE : Hid (decide (l = m) = false) := Lib.hid (show decide (l = m) = false by
                   rw [decide_eq_false_iff_not];rintro rfl
                   have:=HTT.out.symm.trans HUU.out
                   simp only [Option.some.injEq,Wr.mk.injEq] at this
                   exact he4 this.2.2.2.2.1)
                 have x1:(val1.toList == val2.toList)=false:=by rw [ByteArray.toList_eq,ByteArray.toList_eq,beq_eq_false_iff_ne];intro e9;exact he4 (bytes_ext e9)
                 have x2:(val1.toList != val2.toList)=true:=by rw [bne,x1];rfl
                 go_wp2
                 go_quiet (fail)
                 go_wp2
                 go_ret
                 exact ⟨by rw [HE.out];rfl,by first | exact ⟨_,rfl⟩ | exact ⟨_,by rw [World.drewN_drewN]⟩⟩
             · have HE : Hid (decide (l = m) = false) := Lib.hid (show decide (l = m) = false by
                 rw [decide_eq_false_iff_not];rintro rfl
                 have:=HTT.out.symm.trans HUU.out
                 simp only [Option.some.injEq,Wr.mk.injEq] at this
                 exact he3 this.2.2.2.1)
               have x1:(key1.toList == key2.toList)=false:=by rw [ByteArray.toList_eq,ByteArray.toList_eq,beq_eq_false_iff_ne];intro e9;exact he3 (bytes_ext e9)
               have x2:(key1.toList != key2.toList)=true:=by rw [bne,x1];rfl
               go_wp2
               go_quiet (fail)
               go_wp2
               go_ret
               exact ⟨by rw [HE.out];rfl,by first | exact ⟨_,rfl⟩ | exact ⟨_,by rw [World.drewN_drewN]⟩⟩
           · have HE : Hid (decide (l = m) = false) := Lib.hid (show decide (l = m) = false by
               rw [decide_eq_false_iff_not];rintro rfl
               have:=HTT.out.symm.trans HUU.out
               simp only [Option.some.injEq,Wr.mk.injEq] at this
               exact he2 this.2.2.1)
             have x1:(K1 == K2)=false:=by simpa using he2
             have x2:(K1 != K2)=true:=by simpa using he2
             go_wp2
             go_quiet (fail)
             go_wp2
             go_ret
             exact ⟨by rw [HE.out];rfl,by first | exact ⟨_,rfl⟩ | exact ⟨_,by rw [World.drewN_drewN]⟩⟩
         · have HE : Hid (decide (l = m) = false) := Lib.hid (show decide (l = m) = false by
             rw [decide_eq_false_iff_not];rintro rfl
             have:=HTT.out.symm.trans HUU.out
             simp only [Option.some.injEq,Wr.mk.injEq] at this
             exact he1 this.2.1)
           have x1:(R1 == R2)=false:=by simpa using he1
           have x2:(R1 != R2)=true:=by simpa using he1
           go_wp2
           go_quiet (fail)
           go_wp2
           go_ret
           exact ⟨by rw [HE.out];rfl,by first | exact ⟨_,rfl⟩ | exact ⟨_,by rw [World.drewN_drewN]⟩⟩
       · have HE : Hid (decide (l = m) = false) := Lib.hid (show decide (l = m) = false by
           rw [decide_eq_false_iff_not];rintro rfl
           have:=HTT.out.symm.trans HUU.out
           simp only [Option.some.injEq,Wr.mk.injEq] at this
           exact he0 this.1)
         have x1:(T1 == T2)=false:=by simpa using he0
         have x2:(T1 != T2)=true:=by simpa using he0
         go_wp2
         go_quiet (fail)
         go_wp2
         go_ret
         exact ⟨by rw [HE.out];rfl,by first | exact ⟨_,rfl⟩ | exact ⟨_,by rw [World.drewN_drewN]⟩⟩
     · have HE : Hid (decide (l = m) = true) := Lib.hid (show decide (l = m) = true by
         rw [decide_eq_true_eq]
         have h:=HTK.out
         rw [List.take_of_length_le (by have:=HN.out;omega),List.take_of_length_le (by have:=HN2.out;omega)] at h
         exact h)
       go_wp2
       go_ret
       exact ⟨by rw [HE.out];rfl,by first | exact ⟨_,rfl⟩ | exact ⟨_,by rw [World.drewN_drewN]⟩⟩
 · have HE : Hid (decide (l = m) = false) := Lib.hid (show decide (l = m) = false by
     rw [decide_eq_false_iff_not];rintro rfl;exact hne (HN.out.trans HN2.out.symm))
   have x1:((n:Int) == (n2:Int))=false:=by simp;omega
   have x2:((n:Int) != (n2:Int))=true:=by simp;omega
   rw [HE.out]
   go_enter Tryz.func54,Tryz.ntmps54
   go_wp2
   go_ret
   exact ⟨rfl,0,rfl⟩
theorem equalw_as (v1 v2:Value) (l m:List Wr) (c:Bool) (w:World) (h1:IsWrs w v1 l) (h2:IsWrs w v2 m) (hl:l.length≤9223372036854775807) (hm:m.length≤9223372036854775807) (hc:decide (l=m)=c) :
   Calls Tryz.prog 54 #[v1,v2] w fun e w'=>e=.returned (.bool c)∧∃ q,w'=w.drewN q :=
 (equal_wrs v1 v2 l m w h1 h2 hl hm).mono fun _ _ ⟨h1,h2⟩=>⟨by rw [h1,hc],h2⟩
end Go.Proofs.YtjkbmfpomgcblaaGreatDoor
