import Derived.Test.YtddbpnplbcjpgaaGreatDoorLp27
import Derived.Test.YtddbpnplbcjpgaaGreatDoorLp23
import Derived.Sort.OwnSorted
import Derived.Lib.OwnBridge
import Derived.WalkSpells
namespace Go.Proofs.YtddbpnplbcjpgaaGreatDoor
open Go.RowKit Go.Maps
set_option maxRecDepth 100000 in
set_option maxHeartbeats 8000000 in
theorem of_new (v:Value) (l:List Wr) (w:World) (h:IsWrs w v l) (hr:∀ x∈l,wrF x=0) (hl:l.length≤100000) :
   Calls Tryz.prog 55 #[v] w fun e w'=>∃ u,e=.returned (.tuple #[u,.nilIface])∧IsCells w' u (cellsF l)∧Below w.heap.size w w'∧∀ k,u.ownBlock=some k→w.heap.size≤k:=by
 obtain ⟨a,c,rfl,hf⟩:=h.form
 have HI:=Lib.hid h
 have HF:=Lib.hid hf
 have HR:=Lib.hid hr
 obtain ⟨n,hn⟩:∃ n,n=l.length:=⟨_,rfl⟩
 rw [←hn] at hl ⊢
 have HN:=Lib.hid hn
 clear h hf hr hn
 obtain ⟨P,hP⟩:∃ P,P=w.heap.size + 1:=⟨_,rfl⟩
 have HP:=Lib.hid hP
 clear hP
 go_enter Tryz.func55,Tryz.ntmps55
 go_wp2_with (go_at_call 81;refine (new_any _).mono ?_;rintro r w1 ⟨rfl,hs1,hb1⟩;have HS1:Hid (StoB w1 w.heap.size (w.heap.size + 2) P 0 (fun _=>cel0)):=Lib.hid (by rw [HP.out];exact hs1);have HB1:=Lib.hid hb1;clear hs1 hb1;rw [←HP.out])
 go_loopw [11] (fun i wr=>∃ k:Nat,k≤n∧i=.int .i64 k∧StoB wr w.heap.size (w.heap.size + 2) P k (cellK (l.take k))∧Below w.heap.size w wr) (fun i _=>n - (intOf i).toNat)
 case atStart=>exact ⟨0,by omega,rfl,by rw [List.take_zero,cellK_nil];exact HS1.out,HB1.out⟩
 case round =>
   obtain ⟨k,hk,rfl,hs,hb⟩:=hrel
   have HS:=Lib.hid hs
   have HB:=Lib.hid hb
   clear hs hb HS1 HB1
   by_cases hlt:k < n
   · have b1:decide ((k:Int) < (n:Int))=true:=by simpa using hlt
     obtain ⟨x, hx⟩ : ∃ x, l[k]? = some x := ⟨l[k]'(by rw [← HN.out]; exact hlt), List.getElem?_eq_getElem _⟩
     obtain ⟨b,off,rfl,hbl,c0,c1,c2,c3,c4,c5⟩:=HF.out k x hx
     have HX:=Lib.hid hx
     have hx0:wrF x=0:=HR.out x (List.mem_of_getElem? hx)
     obtain ⟨T,Re,K,key,val,N⟩:=x
     simp only at c0 c1 c2 c3 c4 c5
     have HX0:=Lib.hid hx0
     have HBL:=Lib.hid hbl
     have d:∀ j u,w.cell? ⟨b,j,none⟩=some u→wr.cell? ⟨b,j,none⟩=some u:=fun j u hu=>(HB.out.cell (p:=⟨b,j,none⟩) HBL.out).trans hu
     have e0:=d _ _ c0
     have e1:=d _ _ c1
     have e2:=d _ _ c2
     have e3:=d _ _ c3
     have e4:=d _ _ c4
     have e5:=d _ _ c5
     have HSR:Hid (w.heap.size≤wr.heap.size):=Lib.hid HB.out.size
     clear hx hx0 c0 c1 c2 c3 c4 c5 d hbl
     go_wp2_with (go_at_call 82;obtain ⟨M,D,L,hs,hBP,hBM⟩:=HS.out.grown (grown_alloc (grown_refl _ none) (.cells #[.int .i64 T,.int .i64 Re,.int .i64 K,.string key,.string val,.int .i64 N] 26));refine (do_good _ w.heap.size (w.heap.size + 2) P M k D _ L T Re K key val N hs HX0.out (by omega) hBP hBM).mono ?_;rintro r w3 ⟨rfl,hs3,hb3,_⟩;have HS3:=Lib.hid hs3;have HB3:=Lib.hid hb3;clear hs hBP hBM hs3 hb3)
     go_roundw
     · refine ⟨k + 1,by omega,by simp,?_,?_⟩
       · rw [List.take_add_one,HX.out]
         show StoB _ _ _ _ _ (cellK (l.take k ++ [_]))
         rw [←stepG_cellK]
         exact HS3.out
       · exact (HB.out.alloc HSR.out _).trans HB3.out
     · simp [intOf];omega
   · have b1:decide ((k:Int) < (n:Int))=false:=by simp;omega
     obtain rfl:k=n:=by omega
     have HT:Hid (StoB wr w.heap.size (w.heap.size + 2) P k (cellK l)):=Lib.hid (by have:=HS.out;rwa [List.take_of_length_le (by rw [HN.out];exact Nat.le_refl _)] at this)
     clear HS
     go_wp2_with (go_at_call 83;obtain ⟨M,D,L,hs,hBP,hBM⟩:=HT.out;refine (cells_new _ (w.heap.size + 2) P M k D _ L hs (by omega) (keys_ok HR.out)).mono ?_;rintro r w3 ⟨u,z,rfl,hz,hu,hb3,hfr⟩;have HFR:=Lib.hid hfr;have HU:Hid (IsCells w3 u (cellsF l)):=Lib.hid (by rw [←hz.is];exact hu);have HB3:=Lib.hid hb3;clear hs hBP hBM hz hu hb3 hfr)
     go_ret2
     exact ⟨u,rfl,HU.out,HB.out.trans (HB3.out.mono HB.out.size),fun k e=>Nat.le_trans HB.out.size (HFR.out k e)⟩
end Go.Proofs.YtddbpnplbcjpgaaGreatDoor
namespace Go.Proofs.YtddbpnplbcjpgaaGreatDoor
open Go.RowKit
theorem cellK_len (l:List Wr) (k:ByteArray):(cellK l k).list.length≤l.length:=by
 unfold cellK
 have h:∀ (m:List Wr) (c:Cel),(m.foldl stepC c).list.length≤c.list.length + m.length:=by
   intro m
   induction m with
   | nil=>intro c;exact Nat.le_refl _
   | cons x r ih =>
     intro c
     rw [List.foldl_cons,List.length_cons]
     have h1:=ih (stepC c x)
     have h2:=stepC_len c x
     omega
 refine Nat.le_trans (h _ _) ?_
 have:=List.length_filter_le (fun w=>decide (w.key=k)) l
 simp only [cel0,List.length_nil]
 omega
theorem cellsF_len (l:List Wr):(cellsF l).length≤l.length:=by
 have h1:(cellsF l).length=((cellsF l).map (·.1)).length:=by rw [List.length_map]
 rw [h1]
 have h2:(cellsF l).map (·.1) ⊆ l.map (·.key):=by
   intro k hk
   rw [cellsF_keys] at hk
   obtain ⟨w,hw,rfl⟩:=keysS_mem.1 (List.mem_filter.1 hk).1
   exact List.mem_map_of_mem hw
 have h3:=(cellsF_nodup l).length_le_of_subset h2
 rw [←h1];simpa using h3
theorem cellsF_lists (l:List Wr):∀ p∈cellsF l,p.2.list.length≤l.length:=by
 rintro ⟨k,c⟩ hp
 obtain ⟨rfl,_⟩:=cellsF_mem.1 hp
 exact cellK_len l k
end Go.Proofs.YtddbpnplbcjpgaaGreatDoor
namespace Go.Proofs.YtddbpnplbcjpgaaGreatDoor
open Go.RowKit
theorem rtake_snoc {l:List Wr} {k:Nat} {x:Wr} (hx:l[k]? = some x):l.take (k + 1)=l.take k ++ [x]:=by rw [List.take_add_one,hx];rfl
theorem cellK_yes {l:List Wr} {j:Nat} {x:Wr} {k:ByteArray} (hx:l[j]? = some x) (h:x.key=k):cellK (l.take (j + 1)) k=stepC (cellK (l.take j) k) x:=by
 rw [rtake_snoc hx,cellK_app]
 simp [h]
theorem cellK_no {l:List Wr} {j:Nat} {x:Wr} {k:ByteArray} (hx:l[j]? = some x) (h:x.key≠k):cellK (l.take (j + 1)) k=cellK (l.take j) k:=by
 rw [rtake_snoc hx,cellK_app]
 simp [h]
def Txt (w:World) (u:Value) (ys:List ByteArray):Prop:=(∃ c,u=.slice none 0 c∧c=0∧ys=[])∨∃ ad c,u=.slice (some ad) ys.length c∧∀ k s,ys[k]? = some s→w.cell? (ad.add k)=some (.string s)
theorem run_append_txt (w:World) (ty:TypeId) (base:Nat) (v:Value) (l:List ByteArray) (hown:ownsS w base v l) (u:Value) (ys:List ByteArray) (hsrc:Txt w u ys) (hlen:l.length + ys.length≤1000000) (hbase:base≤w.heap.size) :
   ∃ v' w',(Builtin.append_ #[103,103] ty #[v,u]).run Tryz.prog w=.ok v' w'∧ownsS w' base v' (l ++ ys)∧w.grownBy w' v.ownBlock∧(v'.ownBlock=v.ownBlock∨v'.ownBlock=some w.heap.size):=by
 obtain ⟨i0,hi,hz0,hz1,hz2⟩:=info_parts info_str
 rcases hsrc with ⟨c,rfl,rfl,rfl⟩ | ⟨ad,c,rfl,hc⟩
 · exact ⟨v,w,run_append_owned_none w base 103 ty 9 i0 1 Tryz.underlying103 hi v _ _ hown,by rw [List.append_nil];exact hown,grown_refl _ _,.inl rfl⟩
 · obtain ⟨v', w', h1, h2, h3, _, h5⟩ := run_append_own_at (P := Tryz.prog) w base 103 ty 9 i0 (.string ⟨#[]⟩) 1 16 Tryz.underlying103 hi hz0 hz1 hz2 rfl (by decide) v l.length (l.map Value.string) hown ad ys.length c (ys.map Value.string) (by simp) (fun j u hj => by
     rw [List.getElem?_map] at hj
     obtain ⟨s,hs,rfl⟩:=Option.map_eq_some_iff.1 hj
     exact hc j s hs) (fun u hu=>by obtain ⟨s,_,rfl⟩:=List.mem_map.1 hu;rfl) (by unfold maxLen;omega) (by omega) hbase
   exact ⟨v',w',h1,by unfold ownsS;rw [List.length_append,List.map_append];exact h2,h3,h5⟩
theorem step_append_txt (w:World) {ops:Array Oper} {o:Oper} {a:Act} {K:Act→World→Prop} {Q:Exit→Act→World→Prop} {E:Prop} (hgd:o.guard=none) (s x:Operand)
   (ho:o.op=.call { callee:=.builtin .append,args:=#[s,x],argTypes:=#[103,103] })
   (base:Nat) (v:Value) (l:List ByteArray) (hs:a.eval s=v) (hown:ownsS w base v l) (u:Value) (ys:List ByteArray) (hx:a.eval x=u) (hsrc:Txt w u ys) (hlen:l.length + ys.length≤1000000) (hbase:base≤w.heap.size)
   (h:∀ v' w',ownsS w' base v' (l ++ ys)→w.grownBy w' v.ownBlock→(v'.ownBlock=v.ownBlock∨v'.ownBlock=some w.heap.size)→K (a.put o.dst v') w') :
   if Region.wanted o (yielded ops a.tmps)=true then Oper.wp Tryz.prog o a w K Q else E:=by
 have hw:Region.wanted o (yielded ops a.tmps)=true:=by simp [Region.wanted,hgd]
 rw [if_pos hw]
 obtain ⟨v',w',hr,h2,h3,h4⟩:=run_append_txt w o.type base v l hown u ys hsrc hlen hbase
 unfold Oper.wp execOp
 simp only [ho,resolve,invoke,builtin,Sem.run_bind,Sem.run_pure,Result.andThen_ok,List.map_toArray,List.map_cons,List.map_nil,hs,hx,hr]
 exact h v' w' h2 h3 h4
theorem Txt.kept {w w':World} {u:Value} {ys:List ByteArray} (h:Txt w u ys) (hk:∀ ad c,u=.slice (some ad) ys.length c→∀ k s,ys[k]? = some s→w'.cell? (ad.add k)=w.cell? (ad.add k)):Txt w' u ys:=by
 rcases h with h | ⟨ad,c,e,h⟩
 · exact .inl h
 · exact .inr ⟨ad,c,e,fun k s hs=>(hk ad c e k s hs).trans (h k s hs)⟩
theorem addr_add (g o k:Nat):(⟨g,o,none⟩:Addr).add k=⟨g,o + k,none⟩:=by unfold Addr.add;split <;> simp_all
theorem own_cap {w:World} {H n c:Nat} {a:Option Addr} {l:List ByteArray} (h:ownsS w H (.slice a n c) l):l.length≤c:=by
 rcases h.2 with ⟨e,h0⟩ | ⟨g,cap,cur,e,_,_,hc,_⟩
 · omega
 · obtain ⟨_,_,e3⟩:=Value.slice.inj e
   omega
theorem own_cells {w:World} {H n c:Nat} {a:Option Addr} {l:List ByteArray} (h:ownsS w H (.slice a n c) l):(a=none∧l=[]∧c=0)∨∃ g,a=some ⟨g,0,none⟩∧∀ k s,l[k]? = some s→w.cell? ⟨g,k,none⟩=some (.string s):=by
 have hall:=h
 rcases h.2 with ⟨e,h0⟩ | ⟨g,cap,cur,e,_⟩
 · obtain ⟨e1,_,e3⟩:=Value.slice.inj e
   exact .inl ⟨e1,List.length_eq_zero_iff.1 h0,e3⟩
 · obtain ⟨e1,e2,e3⟩:=Value.slice.inj e
   subst e1 e3
   refine .inr ⟨g,rfl,fun k s hs=>?_⟩
   have hk:=(List.getElem?_eq_some_iff.1 hs).1
   rw [e2] at hall
   rw [World.ownsRow.cellAt hall k (by omega),List.getElem?_map,hs]
   rfl
theorem txt_take {w:World} {H n c:Nat} {a:Option Addr} {l:List ByteArray} (h:ownsS w H (.slice a n c) l) {i:Nat} (hi:i≤l.length):Txt w (.slice a i c) (l.take i):=by
 rcases own_cells h with ⟨rfl,rfl,rfl⟩ | ⟨g,rfl,hc⟩
 · obtain rfl:i=0:=by simpa using hi
   exact .inl ⟨0,rfl,rfl,rfl⟩
 · refine .inr ⟨⟨g,0,none⟩,c,by rw [List.length_take,Nat.min_eq_left hi],fun k s hs=>?_⟩
   rw [addr_add,Nat.zero_add]
   rw [List.getElem?_take] at hs
   split at hs
   · exact hc k s hs
   · cases hs
theorem txt_drop {w:World} {H n c:Nat} {a:Option Addr} {l:List ByteArray} (h:ownsS w H (.slice a n c) l) {i:Nat} (hi:i≤l.length):Txt w (.slice (if c=i then a else Option.map (fun x=>x.add i) a) (l.length - i) (c - i)) (l.drop i):=by
 rcases own_cells h with ⟨rfl,rfl,rfl⟩ | ⟨g,rfl,hc⟩
 · obtain rfl:i=0:=by simpa using hi
   exact .inl ⟨0,rfl,rfl,rfl⟩
 · have hcap:=own_cap h
   by_cases e:c=i
   · subst e
     obtain e2:l.length=c:=by omega
     rw [if_pos rfl]
     refine .inr ⟨⟨g,0,none⟩,_,by rw [List.length_drop],fun k s hs=>?_⟩
     rw [List.getElem?_drop,List.getElem?_eq_none (by omega)] at hs
     cases hs
   · rw [if_neg e]
     refine .inr ⟨⟨g,i,none⟩,_,by rw [List.length_drop,Option.map_some,addr_add,Nat.zero_add],fun k s hs=>?_⟩
     rw [addr_add]
     rw [List.getElem?_drop] at hs
     exact hc _ s hs
theorem txt_lit {w:World} {B:Nat} {s:ByteArray} (h:w.cell? ⟨B,0,none⟩=some (.string s)):Txt w (.slice (some ⟨B,0,none⟩) 1 1) [s] :=
 .inr ⟨⟨B,0,none⟩,1,rfl,fun k t hk=>by
   cases k with
   | zero=>simp at hk;subst hk;rw [addr_add];exact h
   | succ k=>simp at hk⟩
theorem stepC_ins {ch:Bool} {ct:ByteArray} {cs:Int} {cl:List ByteArray} {T Re:Int} {key val:ByteArray} {N:Int} {i:Nat} (hi:i=min N.toNat cl.length):stepC ⟨ch,ct,cs,cl⟩ ⟨T,Re,4,key,val,N⟩=⟨ch,ct,cs,cl.take i ++ [val] ++ cl.drop i⟩:=by
 simp [stepC,insL,←hi]
def sortB (xs:List ByteArray):List ByteArray:=xs.mergeSort leB
theorem sortB_len (xs:List ByteArray):(sortB xs).length=xs.length:=List.length_mergeSort _
theorem sortB_map (xs:List ByteArray):(xs.map (fun b=>b.data.toList)).mergeSort (fun x y=>decide (x≤y))=(sortB xs).map (fun b=>b.data.toList) :=
 (List.map_mergeSort (r:=leB) (s:=fun x y=>decide (x≤y)) (f:=fun b:ByteArray=>b.data.toList) (fun _ _ _ _=>rfl)).symm
theorem sorts_any (base:Nat) (u:Value) (xs:List ByteArray) (w:World) (h:ownsS w base u xs) (hx:xs.length≤1000000) :
   Calls Tryz.prog 57 #[u] w fun e w'=>e=.returned (.tuple #[])∧ownsS w' base u (sortB xs)∧w.grownBy w' u.ownBlock:=by
 rcases h.2 with ⟨rfl,h0⟩ | ⟨g,cap,cur,rfl,hb,hh,h1,h2,h3,h4⟩
 · refine (Tryz.sort_Strings_none none 0 w).mono ?_
   rintro e w' ⟨rfl,rfl⟩
   have hx0:xs=[]:=List.length_eq_zero_iff.1 h0
   subst hx0
   exact ⟨rfl,by rw [show sortB []=[] by simp [sortB]];exact ownsS_nil _ _,⟨rfl,rfl,rfl,Nat.le_refl _,fun _ _ _=>rfl⟩⟩
 · have ht : cur.toList.take (xs.map (fun b => b.data.toList)).length = (xs.map (fun b => b.data.toList)).map encStr := by
     rw [Lib.map_encStr,List.length_map,←h4,Nat.mul_one]
   have hc:=Tryz.sort_Strings g 0 cap (xs.map (fun b=>b.data.toList)) w (holds_of_block hh ht) (Array.getElem?_eq_some_iff.1 hh).1 (by rw [List.length_map];omega)
   rw [List.length_map] at hc
   refine hc.mono ?_
   rintro e w' ⟨rfl,n,os,rfl⟩
   have hr:=ownsRow_sorted (n:=n) (os:=os) (ts:=(sortB xs).map (fun b=>b.data.toList)) (ss:=xs.map (fun b=>b.data.toList)) (by simp [sortB_len]) hb hh (by rw [List.length_map];exact h1) h2 h3
   rw [Lib.map_encStr,List.length_map,←sortB_map] at hr
   refine ⟨rfl,?_,grownBy_sorted _⟩
   unfold ownsS
   rw [sortB_len]
   exact hr
end Go.Proofs.YtddbpnplbcjpgaaGreatDoor
namespace Go.Proofs.YtddbpnplbcjpgaaGreatDoor
open Go.RowKit
theorem isWrs_take {w:World} {a:Option Addr} {n k c:Nat} {l:List Wr} (h:IsWrs w (.slice a n c) l) (hn:n=l.length) (hk:k≤n) (h0:0 < k):IsWrs w (.slice a k c) (l.take k):=by
 rcases h with ⟨a',c',e,rfl⟩ | ⟨b,off,c',e,h1,h2,h3⟩
 · simp at hn;omega
 · obtain ⟨e1,e2,e3⟩:=Value.slice.inj e
   subst e1 e3
   have hl:(l.take k).length=k:=by rw [List.length_take];omega
   refine .inr ⟨b,off,c,by rw [hl],by omega,h2,fun j u hj=>h3 j u ?_⟩
   rw [wrsC_take,List.getElem?_take] at hj
   split at hj
   · exact hj
   · cases hj
theorem isWrs_cap {w:World} {B n c:Nat} {a:Option Addr} {l:List Wr} (h:ownsW w B (.slice a n c) l):n≤c:=by
 rcases h.2 with ⟨e,_⟩ | ⟨g,cap,cur,e,_,_,hc,_⟩
 · obtain ⟨_,e2,_⟩:=Value.slice.inj e
   omega
 · obtain ⟨_,e2,e3⟩:=Value.slice.inj e
   omega
structure NC (w W:World) (P:Nat) (F:Nat→Prop) (s:LogS) (vh vw:Value):Prop where
 rowr:W.heap[w.heap.size]? = some (.cells #[.slice none 0 0,.slice none 0 0,.slice none 0 0] 30 (0,0))
 log:LogIn W P F s vh vw
 bel:Below w.heap.size w W
 sz:w.heap.size + 1≤W.heap.size
section
variable {w W:World} {P:Nat} {F:Nat→Prop} {s:LogS} {vh vw:Value}
theorem NC.call {W':World} (h:NC w W P F s vh vw) (hb:Below W.heap.size W W'):NC w W' P F s vh vw :=
 ⟨(hb.block _ (by have:=h.sz;omega)).trans h.rowr,h.log.below hb,h.bel.trans (hb.mono h.bel.size),Nat.le_trans h.sz hb.size⟩
theorem NC.cr (h:NC w W P F s vh vw):(W.cell? ⟨w.heap.size,0,none⟩=some (.slice none 0 0)∧W.cell? ⟨w.heap.size,1,none⟩=some (.slice none 0 0)∧W.cell? ⟨w.heap.size,2,none⟩=some (.slice none 0 0))∧W.frozen? ⟨w.heap.size,0,none⟩=false∧W.frozen? ⟨w.heap.size,1,none⟩=false∧W.frozen? ⟨w.heap.size,2,none⟩=false :=
 ⟨⟨cell_of_row _ _ 0 _ _ _ h.rowr,cell_of_row _ _ 1 _ _ _ h.rowr,cell_of_row _ _ 2 _ _ _ h.rowr⟩,Lib.frozen_of_heap h.rowr 0,Lib.frozen_of_heap h.rowr 1,Lib.frozen_of_heap h.rowr 2⟩
theorem NC.out (h:NC w W P F s vh vw) (a b c:Value):(((W.setCell ⟨w.heap.size,0,none⟩ a).setCell ⟨w.heap.size,1,none⟩ b).setCell ⟨w.heap.size,2,none⟩ c).heap[w.heap.size]? = some (.cells #[a,b,c] 30 (0,0))∧Below w.heap.size w (((W.setCell ⟨w.heap.size,0,none⟩ a).setCell ⟨w.heap.size,1,none⟩ b).setCell ⟨w.heap.size,2,none⟩ c) ∧
   But (fun k=>k=w.heap.size) W (((W.setCell ⟨w.heap.size,0,none⟩ a).setCell ⟨w.heap.size,1,none⟩ b).setCell ⟨w.heap.size,2,none⟩ c) :=
 ⟨heap_setCell_same _ _ 2 _ _ c (heap_setCell_same _ _ 1 _ _ b (heap_setCell_same _ _ 0 _ _ a h.rowr)),((h.bel.setCell (Nat.le_refl _) _).setCell (Nat.le_refl _) _).setCell (Nat.le_refl _) _,
   (((But.refl (fun k=>k=w.heap.size) W).setCell (.inl (show w.heap.size=w.heap.size from rfl)) _).setCell (.inl (show w.heap.size=w.heap.size from rfl)) _).setCell (.inl (show w.heap.size=w.heap.size from rfl)) _⟩
end
def SinIs (w:World) (s:LogS) (f:List Ent) (e:Ending) (w':World):Prop :=
 (sinceE s f≠0∧e=.returned (.tuple #[.agg #[.slice none 0 0,.slice none 0 0,.slice none 0 0],.iface 40 (.int .i64 (sinceE s f:Nat))])∧Below w.heap.size w w') ∨
 (sinceE s f=0∧∃ uf uh uw,e=.returned (.tuple #[.agg #[uf,uh,uw],.nilIface])∧ownsE w' w.heap.size uf f∧ownsE w' w.heap.size uh (sinceH s f)∧ownsW w' w.heap.size uw (sinceB s f)∧Below w.heap.size w w')
theorem sinE_1 {s:LogS} {f:List Ent} (h:(vrightF f).1≠0):sinceE s f=(vrightF f).1:=by unfold sinceE;rw [if_pos h]
theorem sinE_2 {s:LogS} {f:List Ent} (h:(vrightF f).1=0) (h2:covB s.hv f=false):sinceE s f=13:=by unfold sinceE;rw [if_neg (by rw [h];simp),if_pos h2]
theorem sinE_0 {s:LogS} {f:List Ent} (h:(vrightF f).1=0) (h2:covB s.hv f=true):sinceE s f=0:=by unfold sinceE;rw [if_neg (by rw [h];simp),if_neg (by rw [h2];simp)]
theorem sinB_few {s:LogS} {f:List Ent} (h:¬ 60 < (sinceW s f).length):sinceB s f=sinceW s f∧sinceH s f=s.hv:=by
 unfold sinceB sinceH;rw [if_pos (by omega),if_pos (by omega)];exact ⟨rfl,rfl⟩
theorem sinB_many {s:LogS} {f:List Ent} (h:60 < (sinceW s f).length):sinceB s f=(sinceW s f).take 60∧sinceH s f=reachL f ((sinceW s f).take 60):=by
 unfold sinceB sinceH reachL;rw [if_neg (by omega),if_neg (by omega)];exact ⟨rfl,rfl⟩
set_option maxRecDepth 100000 in
set_option maxHeartbeats 8000000 in
theorem lsince_any (P:Nat) (F:Nat→Prop) (s:LogS) (v:Value) (f:List Ent) (w:World) (h:LogAt w P F s) (ok:LogOk s) (hf:IsEnts w v f) (hfl:f.length≤9223372036854775807) (hg:errT w) :
   Calls Tryz.prog 13 #[.pointer (some ⟨P,0,none⟩),v] w (SinIs w s f):=by
 obtain ⟨vh,vw,h⟩:=h
 have HOK:=Lib.hid ok
 obtain ⟨af,cf,rfl,_⟩:=hf.form
 have HF:=Lib.hid hf
 have HFL:=Lib.hid hfl
 have HG:=Lib.hid hg
 obtain ⟨nf,hnf⟩:∃ n,n=f.length:=⟨_,rfl⟩
 rw [←hnf] at HF ⊢
 obtain ⟨ah,ch,rfl,_⟩:=h.ents.is.form
 have HHL:Hid (s.hv.length≤16):=Lib.hid ok.hv.1
 obtain ⟨nh,hnh⟩:∃ n,n=s.hv.length:=⟨_,rfl⟩
 rw [←hnh] at h
 obtain ⟨eb,pb,hb⟩:∃ e pl,vrightF f=(e,pl):=⟨_,_,rfl⟩
 have HBF:=Lib.hid hb
 have HA0:Hid (NC w (w.alloc (.cells #[.slice none 0 0,.slice none 0 0,.slice none 0 0] 30)) P F s (.slice ah nh ch) vw):=Lib.hid ⟨heap_alloc_new _ _,h.below ((Below.refl _ _).alloc (Nat.le_refl _) _),(Below.refl _ _).alloc (Nat.le_refl _) _,by simp⟩
 clear ok hf hfl hg hnf hnh hb h
 go_enter Tryz.func13,Tryz.ntmps13
 go_wp2_with fail
 obtain ⟨W,hW⟩:∃ W,W=w.alloc (.cells #[.slice none 0 0,.slice none 0 0,.slice none 0 0] 30):=⟨_,rfl⟩
 rw [←hW] at HA0 ⊢
 clear hW
 refine (vright_any _ f W (HF.out.below HA0.out.bel) HFL.out).mono ?_
 rintro r w1 ⟨err,rfl,hat,hb1⟩
 rw [HBF.out] at hat
 have HA1:=Lib.hid (HA0.out.call hb1)
 have HAT:=Lib.hid hat
 clear hb1 hat HA0
 by_cases he:eb=0
 · subst he
   obtain rfl:=HAT.out.nil rfl
   have HV0:Hid ((vrightF f).1=0):=Lib.hid (by rw [HBF.out])
   have HRF:Hid (rightV f):=Lib.hid ((vright_ok f).1 HV0.out)
   have p1:=HA1.out.log.c1
   obtain ⟨cc,hcc⟩:∃ cc,covB s.hv f=cc:=⟨_,rfl⟩
   have HCC:=Lib.hid hcc
   clear hcc
   cases cc with
   | false =>
     have HE:Hid (sinceE s f=13):=Lib.hid (sinE_2 HV0.out HCC.out)
     go_wp2_with (go_at_call 36;refine (bcov_as _ _ s.hv f false w1 HA1.out.log.ents.is (HF.out.below HA1.out.bel) (by have:=HHL.out;omega) HFL.out HCC.out).mono ?_;rintro r w2 ⟨rfl,hb2⟩;have HA2:=Lib.hid (HA1.out.call hb2);obtain ⟨⟨r0,r1,r2⟩,g0,g1,g2⟩:=HA2.out.cr;clear hb2)
     obtain ⟨hR,hbR,_⟩:=HA2.out.out (.slice none 0 0) (.slice none 0 0) (.slice none 0 0)
     obtain ⟨V,hV⟩:∃ V,V=((w2.setCell ⟨w.heap.size,0,none⟩ (.slice none 0 0)).setCell ⟨w.heap.size,1,none⟩ (.slice none 0 0)).setCell ⟨w.heap.size,2,none⟩ (.slice none 0 0):=⟨_,rfl⟩
     rw [←hV] at hR hbR ⊢
     clear hV
     have q0:=cell_of_row _ _ 0 _ _ _ hR
     have q1:=cell_of_row _ _ 1 _ _ _ hR
     have q2:=cell_of_row _ _ 2 _ _ _ hR
     refine bodyPost_ret (v:=.tuple #[.agg #[.slice none 0 0,.slice none 0 0,.slice none 0 0],.iface 40 (.int .i64 13)]) (by simp [results,Tryz.results13,go_sem,q0,q1,q2]) rfl ?_
     exact .inl (by rw [HE.out];exact ⟨by simp,rfl,hbR⟩)
   | true =>
     have HE:Hid (sinceE s f=0):=Lib.hid (sinE_0 HV0.out HCC.out)
     obtain ⟨m,hm⟩:∃ m,m=(sinceW s f).length:=⟨_,rfl⟩
     have HM:=Lib.hid hm
     have HSZ:Hid (∀ x∈sinceB s f,x.key.size≤140737488351232∧x.value.size≤140737488351232):=Lib.hid (fun x hx=>HOK.out.size (sinceW_mem.1 ((sinceB_sub s f).subset hx)).1)
     have hm3:m≤300:=by rw [hm];exact Nat.le_trans (List.length_filter_le _ _) HOK.out.len
     have HCV:Hid (∀ r,ofF f r≤ofF s.hv r):=Lib.hid ((covB_iff HOK.out.hv HRF.out).1 HCC.out)
     have HIN:Hid (InV s.hv ((sinceW s f).take 60)):=Lib.hid (inV_of HOK.out (fun x hx=>(sinceW_mem.1 (List.mem_of_mem_take hx)).1))
     clear hm
     by_cases h6:60 < m
     · have b6:decide ((60:Int) < (m:Int))=true:=by simp;omega
       have HMANY:=Lib.hid (sinB_many (s:=s) (f:=f) (by rw [←HM.out];exact h6))
       go_wp2_with (first
         | (go_at_call 36;refine (bcov_as _ _ s.hv f true w1 HA1.out.log.ents.is (HF.out.below HA1.out.bel) (by have:=HHL.out;omega) HFL.out HCC.out).mono ?_;rintro r w2 ⟨rfl,hb2⟩;have HA2:=Lib.hid (HA1.out.call hb2);clear hb2)
         | (go_at_call 16;refine (lhave_any P s F w2 ⟨_,_,HA2.out.log⟩ HOK.out).mono ?_;rintro r w3 ⟨u3,rfl,ho3,hb3⟩;have HA3:=Lib.hid (HA2.out.call hb3);have HO3:=Lib.hid (ho3.mono HA2.out.sz);obtain ⟨a3,c3,rfl,_⟩:=HO3.out.is.form;obtain ⟨n3,hn3⟩:∃ n3,n3=s.hv.length:=⟨_,rfl⟩;rw [←hn3] at HO3 ⊢;clear hn3;clear ho3 hb3)
         | (go_at_call 43;refine (lbehind_any P F s _ f w3 ⟨_,_,HA3.out.log⟩ HOK.out (HF.out.below HA3.out.bel) HFL.out).mono ?_;rintro r w4 ⟨u4,rfl,ho4,hb4⟩;obtain ⟨a4,c4,rfl,_⟩:=ho4.is.form;rw [←HM.out] at ho4 ⊢;have HA4:=Lib.hid (HA3.out.call hb4);have HO4:=Lib.hid (ho4.mono HA3.out.sz);have HO3B:Hid (ownsE w4 (w.heap.size + 1) (.slice a3 n3 c3) s.hv):=Lib.hid (HO3.out.below hb4);have hc4:m≤c4:=isWrs_cap HO4.out;have hc60:60≤c4:=(by omega);have HWT:Hid (IsWrs w4 (.slice a4 60 c4) ((sinceW s f).take 60)):=Lib.hid (isWrs_take HO4.out.is HM.out (by omega) (by omega));clear ho4 hb4)
         | (go_at_call 44;refine (lreached_any _ _ s.hv f ((sinceW s f).take 60) w4 (HF.out.below HA4.out.bel) HWT.out (by rw [List.length_take];omega) HOK.out.hv HRF.out HCV.out HIN.out (HG.out.below HA4.out.bel)).mono ?_;rintro r w7 ⟨u7,rfl,ho7,hb7⟩;obtain ⟨a7,c7,rfl,_⟩:=ho7.is.form;obtain ⟨n7,hn7⟩:∃ n7,n7=(reachL f ((sinceW s f).take 60)).length:=⟨_,rfl⟩;rw [←hn7] at ho7 ⊢;clear hn7;have HA7:=Lib.hid (HA4.out.call hb7);have HOHX:Hid (ownsE w7 (w.heap.size + 1) (.slice a7 n7 c7) (sinceH s f)):=Lib.hid (by rw [HMANY.out.2];exact ho7.mono HA4.out.sz);have HOWX:Hid (IsWrs w7 (.slice a4 60 c4) (sinceB s f)):=Lib.hid (by rw [HMANY.out.1];exact HWT.out.below hb7);clear ho7 hb7)
         | (go_at_call 45;refine (clone_ents _ f w7 (HF.out.below HA7.out.bel) (by have:=HRF.out.1;omega)).mono ?_;rintro r w5 ⟨u5,rfl,ho5,hb5⟩;have HA5:=Lib.hid (HA7.out.call hb5);have HO5:=Lib.hid (ho5.mono HA7.out.sz);obtain ⟨a5,c5,rfl,_⟩:=HO5.out.is.form;obtain ⟨n5,hn5⟩:∃ n5,n5=f.length:=⟨_,rfl⟩;rw [←hn5] at HO5 ⊢;clear hn5;have HOH5:Hid (ownsE w5 (w.heap.size + 1) (.slice a7 n7 c7) (sinceH s f)):=Lib.hid (HOHX.out.below hb5);have HOW5:Hid (IsWrs w5 (.slice a4 60 c4) (sinceB s f)):=Lib.hid (HOWX.out.below hb5);clear ho5 hb5)
         | (go_at_call 46;refine (allapart_any _ (sinceB s f) w5 HOW5.out (by have:=sinceB_len s f;omega) HSZ.out).mono ?_;rintro r w6 ⟨u6,rfl,ho6,hb6,_⟩;have HA6:=Lib.hid (HA5.out.call hb6);have HO6:=Lib.hid (ho6.mono HA5.out.sz);obtain ⟨a6,c6,rfl,_⟩:=HO6.out.is.form;obtain ⟨n6,hn6⟩:∃ n6,n6=(sinceB s f).length:=⟨_,rfl⟩;rw [←hn6] at HO6 ⊢;clear hn6;have HOH6:Hid (ownsE w6 (w.heap.size + 1) (.slice a7 n7 c7) (sinceH s f)):=Lib.hid (HOH5.out.below hb6);have HO56:Hid (ownsE w6 (w.heap.size + 1) (.slice a5 n5 c5) f):=Lib.hid (HO5.out.below hb6);obtain ⟨⟨r0,r1,r2⟩,g0,g1,g2⟩:=HA6.out.cr;clear ho6 hb6)
         | fail)
       obtain ⟨hR,hbR,hBU⟩:=HA6.out.out (.slice a5 n5 c5) (.slice a7 n7 c7) (.slice a6 n6 c6)
       obtain ⟨V,hV⟩:∃ V,V=((w6.setCell ⟨w.heap.size,0,none⟩ (.slice a5 n5 c5)).setCell ⟨w.heap.size,1,none⟩ (.slice a7 n7 c7)).setCell ⟨w.heap.size,2,none⟩ (.slice a6 n6 c6):=⟨_,rfl⟩
       rw [←hV] at hR hbR hBU ⊢
       clear hV
       have q0:=cell_of_row _ _ 0 _ _ _ hR
       have q1:=cell_of_row _ _ 1 _ _ _ hR
       have q2:=cell_of_row _ _ 2 _ _ _ hR
       refine bodyPost_ret (v:=.tuple #[.agg #[.slice a5 n5 c5,(.slice a7 n7 c7),.slice a6 n6 c6],.nilIface]) (by simp [results,Tryz.results13,go_sem,q0,q1,q2]) rfl ?_
       exact .inr ⟨HE.out,_,_,_,rfl,ownsE.mono (ownsRow_but HO56.out hBU (fun k e e2=>by have:=(HO56.out.lt k e).1;omega)) (by omega),ownsE.mono (ownsRow_but HOH6.out hBU (fun k e e2=>by have:=(HOH6.out.lt k e).1;omega)) (by omega),ownsW.mono (ownsRow_but HO6.out hBU (fun k e e2=>by have:=(HO6.out.lt k e).1;omega)) (by omega),hbR⟩
     · have b6:decide ((60:Int) < (m:Int))=false:=by simp;omega
       have HFEW:=Lib.hid (sinB_few (s:=s) (f:=f) (by rw [←HM.out];exact h6))
       go_wp2_with (first
         | (go_at_call 36;refine (bcov_as _ _ s.hv f true w1 HA1.out.log.ents.is (HF.out.below HA1.out.bel) (by have:=HHL.out;omega) HFL.out HCC.out).mono ?_;rintro r w2 ⟨rfl,hb2⟩;have HA2:=Lib.hid (HA1.out.call hb2);clear hb2)
         | (go_at_call 16;refine (lhave_any P s F w2 ⟨_,_,HA2.out.log⟩ HOK.out).mono ?_;rintro r w3 ⟨u3,rfl,ho3,hb3⟩;have HA3:=Lib.hid (HA2.out.call hb3);have HO3:=Lib.hid (ho3.mono HA2.out.sz);obtain ⟨a3,c3,rfl,_⟩:=HO3.out.is.form;obtain ⟨n3,hn3⟩:∃ n3,n3=s.hv.length:=⟨_,rfl⟩;rw [←hn3] at HO3 ⊢;clear hn3;clear ho3 hb3)
         | (go_at_call 43;refine (lbehind_any P F s _ f w3 ⟨_,_,HA3.out.log⟩ HOK.out (HF.out.below HA3.out.bel) HFL.out).mono ?_;rintro r w4 ⟨u4,rfl,ho4,hb4⟩;obtain ⟨a4,c4,rfl,_⟩:=ho4.is.form;rw [←HM.out] at ho4 ⊢;have HA4:=Lib.hid (HA3.out.call hb4);have HO4:=Lib.hid (ho4.mono HA3.out.sz);have HO3B:Hid (ownsE w4 (w.heap.size + 1) (.slice a3 n3 c3) s.hv):=Lib.hid (HO3.out.below hb4);have HOHX:Hid (ownsE w4 (w.heap.size + 1) (.slice a3 n3 c3) (sinceH s f)):=Lib.hid (by rw [HFEW.out.2];exact HO3B.out);have HOWX:Hid (IsWrs w4 (.slice a4 m c4) (sinceB s f)):=Lib.hid (by rw [HFEW.out.1];exact HO4.out.is);clear ho4 hb4)
         | (go_at_call 45;refine (clone_ents _ f w4 (HF.out.below HA4.out.bel) (by have:=HRF.out.1;omega)).mono ?_;rintro r w5 ⟨u5,rfl,ho5,hb5⟩;have HA5:=Lib.hid (HA4.out.call hb5);have HO5:=Lib.hid (ho5.mono HA4.out.sz);obtain ⟨a5,c5,rfl,_⟩:=HO5.out.is.form;obtain ⟨n5,hn5⟩:∃ n5,n5=f.length:=⟨_,rfl⟩;rw [←hn5] at HO5 ⊢;clear hn5;have HOH5:Hid (ownsE w5 (w.heap.size + 1) (.slice a3 n3 c3) (sinceH s f)):=Lib.hid (HOHX.out.below hb5);have HOW5:Hid (IsWrs w5 (.slice a4 m c4) (sinceB s f)):=Lib.hid (HOWX.out.below hb5);clear ho5 hb5)
         | (go_at_call 46;refine (allapart_any _ (sinceB s f) w5 HOW5.out (by have:=sinceB_len s f;omega) HSZ.out).mono ?_;rintro r w6 ⟨u6,rfl,ho6,hb6,_⟩;have HA6:=Lib.hid (HA5.out.call hb6);have HO6:=Lib.hid (ho6.mono HA5.out.sz);obtain ⟨a6,c6,rfl,_⟩:=HO6.out.is.form;obtain ⟨n6,hn6⟩:∃ n6,n6=(sinceB s f).length:=⟨_,rfl⟩;rw [←hn6] at HO6 ⊢;clear hn6;have HOH6:Hid (ownsE w6 (w.heap.size + 1) (.slice a3 n3 c3) (sinceH s f)):=Lib.hid (HOH5.out.below hb6);have HO56:Hid (ownsE w6 (w.heap.size + 1) (.slice a5 n5 c5) f):=Lib.hid (HO5.out.below hb6);obtain ⟨⟨r0,r1,r2⟩,g0,g1,g2⟩:=HA6.out.cr;clear ho6 hb6)
         | fail)
       obtain ⟨hR,hbR,hBU⟩:=HA6.out.out (.slice a5 n5 c5) (.slice a3 n3 c3) (.slice a6 n6 c6)
       obtain ⟨V,hV⟩:∃ V,V=((w6.setCell ⟨w.heap.size,0,none⟩ (.slice a5 n5 c5)).setCell ⟨w.heap.size,1,none⟩ (.slice a3 n3 c3)).setCell ⟨w.heap.size,2,none⟩ (.slice a6 n6 c6):=⟨_,rfl⟩
       rw [←hV] at hR hbR hBU ⊢
       clear hV
       have q0:=cell_of_row _ _ 0 _ _ _ hR
       have q1:=cell_of_row _ _ 1 _ _ _ hR
       have q2:=cell_of_row _ _ 2 _ _ _ hR
       refine bodyPost_ret (v:=.tuple #[.agg #[.slice a5 n5 c5,(.slice a3 n3 c3),.slice a6 n6 c6],.nilIface]) (by simp [results,Tryz.results13,go_sem,q0,q1,q2]) rfl ?_
       exact .inr ⟨HE.out,_,_,_,rfl,ownsE.mono (ownsRow_but HO56.out hBU (fun k e e2=>by have:=(HO56.out.lt k e).1;omega)) (by omega),ownsE.mono (ownsRow_but HOH6.out hBU (fun k e e2=>by have:=(HOH6.out.lt k e).1;omega)) (by omega),ownsW.mono (ownsRow_but HO6.out hBU (fun k e e2=>by have:=(HO6.out.lt k e).1;omega)) (by omega),hbR⟩
 · have HE:Hid (sinceE s f=eb):=Lib.hid (by rw [sinE_1 (by rw [HBF.out];exact he),HBF.out])
   have HIS:=Lib.hid (HAT.out.isErr he)
   obtain ⟨t,v,rfl⟩:=HAT.out.iface he
   have H4:=Lib.hid he
   clear he
   go_wp2_with (go_at_call 42;refine (tell_err _ eb w1 (HG.out.below HA1.out.bel) HIS.out).mono ?_;rintro r w2 ⟨rfl,hb2⟩;have HA2:=Lib.hid (HA1.out.call hb2);obtain ⟨⟨r0,r1,r2⟩,g0,g1,g2⟩:=HA2.out.cr;clear hb2)
   obtain ⟨hR,hbR,_⟩:=HA2.out.out (.slice none 0 0) (.slice none 0 0) (.slice none 0 0)
   obtain ⟨V,hV⟩:∃ V,V=((w2.setCell ⟨w.heap.size,0,none⟩ (.slice none 0 0)).setCell ⟨w.heap.size,1,none⟩ (.slice none 0 0)).setCell ⟨w.heap.size,2,none⟩ (.slice none 0 0):=⟨_,rfl⟩
   rw [←hV] at hR hbR ⊢
   clear hV
   have q0:=cell_of_row _ _ 0 _ _ _ hR
   have q1:=cell_of_row _ _ 1 _ _ _ hR
   have q2:=cell_of_row _ _ 2 _ _ _ hR
   refine bodyPost_ret (v:=.tuple #[.agg #[.slice none 0 0,.slice none 0 0,.slice none 0 0],.iface 40 (.int .i64 (eb:Nat))]) (by simp [results,Tryz.results13,go_sem,q0,q1,q2]) rfl ?_
   exact .inl (by rw [HE.out];exact ⟨H4.out,rfl,hbR⟩)
theorem LogOk.wr {s:LogS} (ok:LogOk s):∀ x∈s.ws,wrF x=0:=fun x hx=>(ok.mem x hx).1
set_option maxRecDepth 100000 in
theorem lcells_any (P:Nat) (s:LogS) (F:Nat→Prop) (w:World) (h:LogAt w P F s) (ok:LogOk s) :
   Calls Tryz.prog 21 #[.pointer (some ⟨P,0,none⟩)] w fun e w'=>∃ u,e=.returned u∧IsCells w' u (cellsF s.ws)∧Below w.heap.size w w'∧∀ k,u.ownBlock=some k→w.heap.size≤k:=by
 obtain ⟨vh,vw,h⟩:=h
 have p2:=h.c2
 have HI:=Lib.hid h.ows.is
 have HL:Hid (s.ws.length≤100000):=Lib.hid (by have:=ok.len;omega)
 have HS:=Lib.hid ok.wr
 clear h ok
 go_enter Tryz.func21,Tryz.ntmps21
 go_wp2_with (go_at_call 55;refine (of_new vw s.ws _ HI.out HS.out HL.out).mono ?_;rintro r w2 ⟨u,rfl,hu,hb,hfr⟩;have HU:=Lib.hid hu;have HB:=Lib.hid hb;have HFR:=Lib.hid hfr;clear hu hb hfr)
 go_ret
 exact ⟨_,rfl,HU.out,HB.out,HFR.out⟩
end Go.Proofs.YtddbpnplbcjpgaaGreatDoor
