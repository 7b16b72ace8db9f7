import Derived.Test.YtddbpnplbcjpgaaGreatDoorLp04
import Derived.Maps.RangeWalk
namespace Go.Proofs.YtddbpnplbcjpgaaGreatDoor
open Go.RowKit
theorem hasv_any (K:Int) (b:Bool) (w:World) (h:hasV K=b):Calls Tryz.prog 63 #[.int .i64 K] w fun e w'=>e=.returned (.bool b)∧w=w':=by
 subst h
 unfold hasV
 by_cases h1:K=1
 · subst h1
   go_enter Tryz.func63,Tryz.ntmps63
   go_wp2
   go_ret
   exact ⟨rfl,rfl⟩
 · have b1:(K == 1)=false:=by simpa using h1
   rw [decide_eq_false h1,Bool.false_or]
   go_enter Tryz.func63,Tryz.ntmps63
   go_wp2
   go_ret
   exact ⟨by first | rfl | (congr 2;rw [Bool.eq_iff_iff];simp),rfl⟩
theorem hasn_any (K:Int) (b:Bool) (w:World) (h:hasN K=b):Calls Tryz.prog 64 #[.int .i64 K] w fun e w'=>e=.returned (.bool b)∧w=w':=by
 subst h
 unfold hasN
 by_cases h1:K=3
 · subst h1
   go_enter Tryz.func64,Tryz.ntmps64
   go_wp2
   go_ret
   exact ⟨rfl,rfl⟩
 · have b1:(K == 3)=false:=by simpa using h1
   rw [decide_eq_false h1,Bool.false_or]
   go_enter Tryz.func64,Tryz.ntmps64
   go_wp2
   go_ret
   exact ⟨by first | rfl | (congr 2;rw [Bool.eq_iff_iff];simp),rfl⟩
def wv (T R K:Int) (key val:ByteArray) (N:Int):Value:=.agg #[.int .i64 T,.int .i64 R,.int .i64 K,.string key,.string val,.int .i64 N]
set_option maxRecDepth 100000 in
set_option maxHeartbeats 1000000 in
theorem fits_any (T R K:Int) (key val:ByteArray) (N:Int) (b:Bool) (w:World) (h:fitsN K N=b) :
   Calls Tryz.prog 65 #[.agg #[.int .i64 T,.int .i64 R,.int .i64 K,.string key,.string val,.int .i64 N]] w fun e w'=>e=.returned (.bool b)∧Below w.heap.size w w':=by
 subst h
 unfold fitsN
 by_cases h1:K=3
 · subst h1
   rw [if_pos rfl]
   by_cases h2 : -1125899906842624≤N
   · rw [decide_eq_true h2,Bool.true_and]
     go_enter Tryz.func65,Tryz.ntmps65
     go_wp2
     go_ret
     exact ⟨by first | rfl | simp,(Below.refl _ _).alloc (Nat.le_refl _) _⟩
   · rw [decide_eq_false h2,Bool.false_and]
     have d:=decide_eq_false h2
     go_enter Tryz.func65,Tryz.ntmps65
     go_wp2
     go_ret
     exact ⟨by first | rfl | simp,(Below.refl _ _).alloc (Nat.le_refl _) _⟩
 · rw [if_neg h1]
   have b1:(K == 3)=false:=by simpa using h1
   by_cases h3:K=4
   · subst h3
     rw [if_pos rfl]
     by_cases h2:0≤N
     · rw [decide_eq_true h2,Bool.true_and]
       go_enter Tryz.func65,Tryz.ntmps65
       go_wp2
       go_ret
       exact ⟨by first | rfl | simp,(Below.refl _ _).alloc (Nat.le_refl _) _⟩
     · rw [decide_eq_false h2,Bool.false_and]
       have d:=decide_eq_false h2
       go_enter Tryz.func65,Tryz.ntmps65
       go_wp2
       go_ret
       exact ⟨by first | rfl | simp,(Below.refl _ _).alloc (Nat.le_refl _) _⟩
   · rw [if_neg h3]
     have b3:(K == 4)=false:=by simpa using h3
     go_enter Tryz.func65,Tryz.ntmps65
     go_wp2
     go_ret
     exact ⟨rfl,(Below.refl _ _).alloc (Nat.le_refl _) _⟩
def wrAt (w:World) (B:Nat) (T R K:Int) (key val:ByteArray) (N:Int):Prop :=
 w.cell? ⟨B,0,none⟩=some (.int .i64 T)∧w.cell? ⟨B,1,none⟩=some (.int .i64 R)∧w.cell? ⟨B,2,none⟩=some (.int .i64 K)∧w.cell? ⟨B,3,none⟩=some (.string key)∧w.cell? ⟨B,4,none⟩=some (.string val)∧w.cell? ⟨B,5,none⟩=some (.int .i64 N)
theorem wrAt.below {w w':World} {B:Nat} {T R K:Int} {key val:ByteArray} {N:Int} {m:Nat} (h:wrAt w B T R K key val N) (hb:Below m w w') (hm:B < m):wrAt w' B T R K key val N :=
 ⟨(hb.cell hm).trans h.1,(hb.cell hm).trans h.2.1,(hb.cell hm).trans h.2.2.1,(hb.cell hm).trans h.2.2.2.1,(hb.cell hm).trans h.2.2.2.2.1,(hb.cell hm).trans h.2.2.2.2.2⟩
theorem wrAt_new (w:World) (T R K:Int) (key val:ByteArray) (N:Int) (t:TypeId):wrAt (w.alloc (.cells #[.int .i64 T,.int .i64 R,.int .i64 K,.string key,.string val,.int .i64 N] t)) w.heap.size T R K key val N:=by
 unfold wrAt;simp
set_option maxRecDepth 100000 in
set_option maxHeartbeats 4000000 in
theorem wright_any (T R K:Int) (key val:ByteArray) (N:Int) (w:World) (hk:key.size≤140737488351232) (hv:val.size≤140737488351232) :
   Calls Tryz.prog 27 #[.agg #[.int .i64 T,.int .i64 R,.int .i64 K,.string key,.string val,.int .i64 N]] w fun e w'=>e=.returned (errV (wriE T R K key val N))∧Below w.heap.size w w':=by
 have HN0:=Lib.hid (wrAt_new w T R K key val N 26)
 by_cases hK:K < 1∨4 < K
 · rw [wriE_kind hK]
   by_cases h1:K < 1
   · go_enter Tryz.func27,Tryz.ntmps27
     go_wp2
     go_ret
     exact ⟨rfl,(Below.refl _ _).alloc (Nat.le_refl _) _⟩
   · have h2:4 < K:=by omega
     go_enter Tryz.func27,Tryz.ntmps27
     go_wp2
     go_ret
     exact ⟨rfl,(Below.refl _ _).alloc (Nat.le_refl _) _⟩
 · have h1:¬ K < 1:=by omega
   have h2:¬ 4 < K:=by omega
   cases hid:idOk T R with
   | false =>
     rw [wriE_id hK hid]
     go_enter Tryz.func27,Tryz.ntmps27
     go_wp2_with fail
     refine (idrightW_any T R false _ hid).mono ?_
     rintro r w1 ⟨rfl,hb1⟩
     have HB1:=Lib.hid (((Below.refl _ _).alloc (Nat.le_refl _) _).trans (hb1.mono (by simp)))
     clear hb1
     go_wp2
     go_ret
     exact ⟨rfl,HB1.out⟩
   | true =>
     go_enter Tryz.func27,Tryz.ntmps27
     go_wp2_with fail
     refine (idrightW_any T R true _ hid).mono ?_
     rintro r w1 ⟨rfl,hb1⟩
     have HA1:=Lib.hid (HN0.out.below hb1 (by simp))
     have HB1:=Lib.hid (((Below.refl _ _).alloc (Nat.le_refl _) _).trans (hb1.mono (by simp)))
     have HL1:Hid (w.heap.size < w1.heap.size):=Lib.hid (by have:=hb1.size;simp at this;exact this)
     have HID:=Lib.hid hid
     clear hb1 hid
     obtain ⟨c0,c1,c2,c3,c4,c5⟩:=HA1.out
     by_cases hs:40 < key.size∨300 < val.size
     · have HW:=Lib.hid (wriE_size (N:=N) hK HID.out hs)
       by_cases h3:40 < key.size
       · go_wp2
         go_ret
         rw [HW.out]
         exact ⟨rfl,HB1.out⟩
       · have h4:300 < val.size:=by omega
         go_wp2
         go_ret
         rw [HW.out]
         exact ⟨rfl,HB1.out⟩
     · have h3:¬ 40 < key.size:=by omega
       have h4:¬ 300 < val.size:=by omega
       have HW:=Lib.hid (wriE_rest (N:=N) hK HID.out hs)
       clear hK hs
       by_cases hve:0 < val.size
       · have b0:¬ val.toList=[]:=by have:=bne_empty hve;simpa using this
         cases hV:hasV K with
         | false =>
           have HR:Hid (wriE T R K key val N=3):=Lib.hid (by rw [HW.out,hV];simp [hve])
           clear hve
           go_wp2_with (go_at_call 63;refine (hasv_any K false _ hV).mono ?_;rintro r w2 ⟨rfl,rfl⟩)
           go_ret
           rw [HR.out]
           exact ⟨rfl,HB1.out⟩
         | true =>
           by_cases hn:N=0
           · subst hn
             cases hF:fitsN K 0 with
             | true =>
               have HR:Hid (wriE T R K key val 0=0):=Lib.hid (by rw [HW.out,hF];simp [hV])
               go_wp2_with (first | (go_at_call 63;refine (hasv_any K true _ hV).mono ?_;rintro r w2 ⟨rfl,rfl⟩) | (go_at_call 65;refine (fits_any T R K key val 0 true _ hF).mono ?_;rintro r w4 ⟨rfl,hb4⟩;have HB4:=Lib.hid (HB1.out.trans (hb4.mono (Nat.le_of_lt HL1.out)));clear hb4))
               go_ret
               rw [HR.out]
               exact ⟨rfl,HB4.out⟩
             | false =>
               have HR:Hid (wriE T R K key val 0=2):=Lib.hid (by rw [HW.out,hF];simp [hV])
               go_wp2_with (first | (go_at_call 63;refine (hasv_any K true _ hV).mono ?_;rintro r w2 ⟨rfl,rfl⟩) | (go_at_call 65;refine (fits_any T R K key val 0 false _ hF).mono ?_;rintro r w4 ⟨rfl,hb4⟩;have HB4:=Lib.hid (HB1.out.trans (hb4.mono (Nat.le_of_lt HL1.out)));clear hb4))
               go_ret
               rw [HR.out]
               exact ⟨rfl,HB4.out⟩
           · cases hM:hasN K with
             | false =>
               have HR:Hid (wriE T R K key val N=3):=Lib.hid (by rw [HW.out,hM];simp [hn])
               go_wp2_with (first | (go_at_call 63;refine (hasv_any K true _ hV).mono ?_;rintro r w2 ⟨rfl,rfl⟩) | (go_at_call 64;refine (hasn_any K false _ hM).mono ?_;rintro r w3 ⟨rfl,rfl⟩))
               go_ret
               rw [HR.out]
               exact ⟨rfl,HB1.out⟩
             | true =>
               cases hF:fitsN K N with
               | true =>
                 have HR:Hid (wriE T R K key val N=0):=Lib.hid (by rw [HW.out,hF];simp [hV,hM])
                 go_wp2_with (first | (go_at_call 63;refine (hasv_any K true _ hV).mono ?_;rintro r w2 ⟨rfl,rfl⟩) | (go_at_call 64;refine (hasn_any K true _ hM).mono ?_;rintro r w3 ⟨rfl,rfl⟩) | (go_at_call 65;refine (fits_any T R K key val N true _ hF).mono ?_;rintro r w4 ⟨rfl,hb4⟩;have HB4:=Lib.hid (HB1.out.trans (hb4.mono (Nat.le_of_lt HL1.out)));clear hb4))
                 go_ret
                 rw [HR.out]
                 exact ⟨rfl,HB4.out⟩
               | false =>
                 have HR:Hid (wriE T R K key val N=2):=Lib.hid (by rw [HW.out,hF];simp [hV,hM])
                 go_wp2_with (first | (go_at_call 63;refine (hasv_any K true _ hV).mono ?_;rintro r w2 ⟨rfl,rfl⟩) | (go_at_call 64;refine (hasn_any K true _ hM).mono ?_;rintro r w3 ⟨rfl,rfl⟩) | (go_at_call 65;refine (fits_any T R K key val N false _ hF).mono ?_;rintro r w4 ⟨rfl,hb4⟩;have HB4:=Lib.hid (HB1.out.trans (hb4.mono (Nat.le_of_lt HL1.out)));clear hb4))
                 go_ret
                 rw [HR.out]
                 exact ⟨rfl,HB4.out⟩
       · obtain rfl:=empty_of hve
         have z0:(⟨#[]⟩:ByteArray).size=0:=rfl
         by_cases hn:N=0
         · subst hn
           cases hF:fitsN K 0 with
           | true =>
             have HR:Hid (wriE T R K key ⟨#[]⟩ 0=0):=Lib.hid (by rw [HW.out,hF];simp [z0])
             go_wp2_with (go_at_call 65;refine (fits_any T R K key ⟨#[]⟩ 0 true _ hF).mono ?_;rintro r w4 ⟨rfl,hb4⟩;have HB4:=Lib.hid (HB1.out.trans (hb4.mono (Nat.le_of_lt HL1.out)));clear hb4)
             go_ret
             rw [HR.out]
             exact ⟨rfl,HB4.out⟩
           | false =>
             have HR:Hid (wriE T R K key ⟨#[]⟩ 0=2):=Lib.hid (by rw [HW.out,hF];simp [z0])
             go_wp2_with (go_at_call 65;refine (fits_any T R K key ⟨#[]⟩ 0 false _ hF).mono ?_;rintro r w4 ⟨rfl,hb4⟩;have HB4:=Lib.hid (HB1.out.trans (hb4.mono (Nat.le_of_lt HL1.out)));clear hb4)
             go_ret
             rw [HR.out]
             exact ⟨rfl,HB4.out⟩
         · cases hM:hasN K with
           | false =>
             have HR:Hid (wriE T R K key ⟨#[]⟩ N=3):=Lib.hid (by rw [HW.out,hM];simp [hn])
             go_wp2_with (first | (go_at_call 64;refine (hasn_any K false _ hM).mono ?_;rintro r w3 ⟨rfl,rfl⟩))
             go_ret
             rw [HR.out]
             exact ⟨rfl,HB1.out⟩
           | true =>
             cases hF:fitsN K N with
             | true =>
               have HR:Hid (wriE T R K key ⟨#[]⟩ N=0):=Lib.hid (by rw [HW.out,hF];simp [hM,z0])
               go_wp2_with (first | (go_at_call 64;refine (hasn_any K true _ hM).mono ?_;rintro r w3 ⟨rfl,rfl⟩) | (go_at_call 65;refine (fits_any T R K key ⟨#[]⟩ N true _ hF).mono ?_;rintro r w4 ⟨rfl,hb4⟩;have HB4:=Lib.hid (HB1.out.trans (hb4.mono (Nat.le_of_lt HL1.out)));clear hb4))
               go_ret
               rw [HR.out]
               exact ⟨rfl,HB4.out⟩
             | false =>
               have HR:Hid (wriE T R K key ⟨#[]⟩ N=2):=Lib.hid (by rw [HW.out,hF];simp [hM,z0])
               go_wp2_with (first | (go_at_call 64;refine (hasn_any K true _ hM).mono ?_;rintro r w3 ⟨rfl,rfl⟩) | (go_at_call 65;refine (fits_any T R K key ⟨#[]⟩ N false _ hF).mono ?_;rintro r w4 ⟨rfl,hb4⟩;have HB4:=Lib.hid (HB1.out.trans (hb4.mono (Nat.le_of_lt HL1.out)));clear hb4))
               go_ret
               rw [HR.out]
               exact ⟨rfl,HB4.out⟩
end Go.Proofs.YtddbpnplbcjpgaaGreatDoor
namespace Go.Proofs.YtddbpnplbcjpgaaGreatDoor
structure Cel where
 has:Bool
 text:ByteArray
 sum:Int
 list:List ByteArray
def cel0:Cel:=⟨false,⟨#[]⟩,0,[]⟩
def insL (l:List ByteArray) (n:Int) (v:ByteArray):List ByteArray:=l.take (min n.toNat l.length) ++ (v :: l.drop (min n.toNat l.length))
def stepC (c:Cel) (w:Wr):Cel :=
 if w.kind=1 then { c with has:=true,text:=w.value }
 else if w.kind=2 then cel0
 else if w.kind=3 then { c with sum:=IntKind.i64.wrap (c.sum + w.n) }
 else if w.kind=4 then { c with list:=insL c.list w.n w.value }
 else c
def live (c:Cel):Bool:=c.has || c.sum != 0 || !c.list.isEmpty
def cellK (l:List Wr) (k:ByteArray):Cel:=(l.filter (fun w=>decide (w.key=k))).foldl stepC cel0
def leB (a b:ByteArray):Bool:=decide (a.data.toList≤b.data.toList)
def keysS (l:List Wr):List ByteArray:=(tabK [] (l.map (·.key))).mergeSort leB
def cellsF (l:List Wr):List (ByteArray×Cel):=((keysS l).map fun k=>(k,cellK l k)).filter fun c=>live c.2
theorem leB_trans (a b c:ByteArray) (h:leB a b=true) (k:leB b c=true):leB a c=true:=by
 unfold leB at *;simp only [decide_eq_true_eq] at *;exact List.le_trans h k
theorem leB_total (a b:ByteArray):(leB a b || leB b a)=true:=by
 unfold leB;simp only [Bool.or_eq_true,decide_eq_true_eq];exact List.le_total _ _
theorem leB_anti {a b:ByteArray} (h:leB a b=true) (k:leB b a=true):a=b:=by
 unfold leB at *;simp only [decide_eq_true_eq] at *
 have e:=List.le_antisymm h k
 cases a;cases b;simp_all
theorem keysS_perm (l:List Wr):(keysS l).Perm (tabK [] (l.map (·.key))):=List.mergeSort_perm _ _
theorem keysS_mem {l:List Wr} {k:ByteArray}:k∈keysS l↔∃ w∈l,w.key=k:=by
 rw [(keysS_perm l).mem_iff]
 constructor
 · intro h
   rcases tabK_sub _ _ _ h with h | h
   · cases h
   · obtain ⟨w,hw,e⟩:=List.mem_map.1 h;exact ⟨w,hw,e⟩
 · rintro ⟨w,hw,rfl⟩
   exact tabK_has _ _ _ (List.mem_map.2 ⟨w,hw,rfl⟩)
theorem keysS_sorted (l:List Wr):(keysS l).Pairwise (fun a b=>leB a b=true):=List.pairwise_mergeSort leB_trans leB_total _
theorem keysS_nodup (l:List Wr):(keysS l).Nodup:=(keysS_perm l).nodup_iff.2 (tabK_nodup _ _ List.nodup_nil)
theorem sorted_unique {α:Type} {x y:List (ByteArray×α)} (hx:(x.map (·.1)).Nodup) (hy:(y.map (·.1)).Nodup) (sx:x.Pairwise (fun a b=>leB a.1 b.1=true)) (sy:y.Pairwise (fun a b=>leB a.1 b.1=true)) (h:∀ c,c∈x↔c∈y):x=y:=by
 have nx:x.Nodup:=(List.pairwise_map.1 hx).imp (fun h e=>h (by rw [e]))
 have ny:y.Nodup:=(List.pairwise_map.1 hy).imp (fun h e=>h (by rw [e]))
 have hp:x.Perm y:=(List.perm_ext_iff_of_nodup nx ny).2 h
 refine List.Perm.eq_of_pairwise (le:=fun a b=>leB a.1 b.1=true) ?_ sx sy hp
 intro a b ha hb h1 h2
 have e1:=leB_anti h1 h2
 have hb':=(h b).2 hb
 by_cases e:a=b
 · exact e
 · exfalso
   obtain ⟨i,hi,rfl⟩:=List.getElem_of_mem ha
   obtain ⟨j,hj,rfl⟩:=List.getElem_of_mem hb'
   have hi':i < (x.map (·.1)).length:=by simpa using hi
   have hj':j < (x.map (·.1)).length:=by simpa using hj
   have:(x.map (·.1))[i]=(x.map (·.1))[j]:=by simpa using e1
   have hij:i=j:=(List.getElem_inj hx).1 this
   subst hij
   exact e rfl
theorem cellsF_keys (l:List Wr):(cellsF l).map (·.1)=(keysS l).filter fun k=>live (cellK l k):=by
 unfold cellsF
 rw [List.filter_map,List.map_map]
 simp [Function.comp_def]
theorem cellsF_nodup (l:List Wr):((cellsF l).map (·.1)).Nodup:=by rw [cellsF_keys];exact (keysS_nodup l).filter _
theorem cellsF_sorted (l:List Wr):(cellsF l).Pairwise (fun a b=>leB a.1 b.1=true):=by
 unfold cellsF
 exact List.Pairwise.filter _ (List.pairwise_map.2 (keysS_sorted l))
theorem cellK_none {l:List Wr} {k:ByteArray} (h:∀ w∈l,w.key≠k):cellK l k=cel0:=by
 unfold cellK
 rw [List.filter_eq_nil_iff.2 (fun w hw=>by simpa using h w hw)];rfl
theorem cellsF_mem {l:List Wr} {k:ByteArray} {c:Cel}:(k,c)∈cellsF l↔cellK l k=c∧live c=true:=by
 unfold cellsF
 rw [List.mem_filter,List.mem_map]
 constructor
 · rintro ⟨⟨k',hk,e⟩,hl⟩
   injection e with e1 e2
   subst e1
   exact ⟨e2,hl⟩
 · rintro ⟨rfl,hl⟩
   refine ⟨⟨k,?_,rfl⟩,hl⟩
   rw [keysS_mem]
   refine Classical.byContradiction fun hn=>?_
   rw [cellK_none (fun w hw e=>hn ⟨w,hw,e⟩)] at hl
   exact absurd hl (by decide)
theorem cellK_app (l m:List Wr) (k:ByteArray):cellK (l ++ m) k=(m.filter (fun w=>decide (w.key=k))).foldl stepC (cellK l k):=by
 unfold cellK;rw [List.filter_append,List.foldl_append]
theorem stepC_drop {w:Wr} (h:w.kind=2) (c:Cel):stepC c w=cel0:=by unfold stepC;rw [if_neg (by omega),if_pos h]
theorem insL_perm (l:List ByteArray) (n:Int) (v:ByteArray):(insL l n v).Perm (v :: l):=by
 unfold insL
 refine (List.perm_middle).trans ?_
 rw [List.take_append_drop]
end Go.Proofs.YtddbpnplbcjpgaaGreatDoor
namespace Go.Proofs.YtddbpnplbcjpgaaGreatDoor
open Go.RowKit
def rowAt (w:World) (g off cap:Nat) (l:List Wr):Prop :=
 (∀ j u,(wrsC l)[j]? = some u→w.cell? ⟨g,off + j,none⟩=some u)∧(∀ j,j < cap * 6→(w.cell? ⟨g,off + j,none⟩).isSome=true∧w.frozen? ⟨g,off + j,none⟩=false)
theorem ownsW.rowAt {w:World} {base:Nat} {v:Value} {l:List Wr} (h:ownsW w base v l) (h0:0 < l.length) :
   ∃ g cap,v=.slice (some ⟨g,0,none⟩) l.length cap∧base≤g∧g < w.heap.size∧l.length≤cap∧cap≤maxLen∧rowAt w g 0 cap l∧w.shape? g=some (26,cap * 6):=by
 have hall:=h
 have hlt:=h.lt
 obtain ⟨_,h1⟩:=h
 rcases h1 with ⟨rfl,hn⟩ | ⟨g,cap,cur,rfl,hb,hh,hc,hm,hs,ht⟩
 · omega
 · refine ⟨g,cap,rfl,hb,(hlt g rfl).2,hc,hm,⟨fun j u hj=>?_,fun j hj=>⟨?_,?_⟩⟩,?_⟩
   · have hjl:j < l.length * 6:=by rw [←wrsC_len];exact (List.getElem?_eq_some_iff.1 hj).1
     rw [Nat.zero_add,World.ownsRow.cellAt hall j hjl]
     exact hj
   · rw [Nat.zero_add,cell_of_row _ _ j _ _ (0,0) hh,Array.getElem?_eq_getElem (by rw [hs];exact hj)];rfl
   · simp [World.frozen?,hh]
   · simp [World.shape?,hh,hs]
theorem run_copyK {P:Program} (w:World) (dT sT ty elem:TypeId) (size:Nat) (b o dLen dCap:Nat) (a:Addr) (sLen sCap:Nat) (cs:List Value)
   (hu:P.underlying dT=some (.slice elem)) (hs:(P.info? elem).map (·.size)=some size) (hn:cs.length=Nat.min sLen dLen * size)
   (hsrc:∀ j v,cs[j]? = some v→w.cell? (a.add j)=some v) (hc:∀ j,j < cs.length→(w.cell? ⟨b,o + j,none⟩).isSome=true) (hf:∀ j,j < cs.length→w.frozen? ⟨b,o + j,none⟩=false) (h1:∀ v∈cs,v.oneCell'=true) :
   (Builtin.copy_ #[dT,sT] ty #[.slice (some ⟨b,o,none⟩) dLen dCap,.slice (some a) sLen sCap]).run P w=.ok (goInt (Nat.min sLen dLen)) (w.setCells b o cs):=by
 have hl:=run_loadCells_list (P:=P) w a cs hsrc
 have hst:=run_storeCells_cells (P:=P) b o cs 0 w (by simpa using hc) (by simpa using hf) h1
 cases hq:P.info? elem with
 | none=>simp [hq] at hs
 | some i =>
   have hi:i.size=size:=by simpa [hq] using hs
   simp [Builtin.copy_,run_underlying hu,Builtin.lenOf,Builtin.firstCells,sizeOf,typeInfo,hq,hi,←hn,hl,hst]
theorem rowAt.cell {w:World} {g off cap:Nat} {l:List Wr} (h:rowAt w g off cap l) {j:Nat} {u:Value} (hj:(wrsC l)[j]? = some u):w.cell? ⟨g,off + j,none⟩=some u:=h.1 j u hj
theorem rowAt.drew {w:World} {g off cap:Nat} {l:List Wr} (h:rowAt w g off cap l):rowAt w.drew g off cap l:=h
theorem below_setCells {w wr:World} {base g:Nat} (h:Below base w wr) (hg:base≤g):∀ (vs:List Value) (o:Nat),Below base w (wr.setCells g o vs):=by
 intro vs
 induction vs generalizing wr with
 | nil=>intro o;exact h
 | cons v r ih=>intro o;exact ih (h.setCell hg _) (o + 1)
theorem wpList_append_wrs {w:World} {ops:Array Oper} {rest:List Oper} {o:Oper} {a:Act} {Q:Exit→Act→World→Prop} (hgd:o.guard=none) (s x:Operand)
   (ho:o.op=.call { callee:=.builtin .append,args:=#[s,x],argTypes:=#[28,28] })
   (base:Nat) (v:Value) (l:List Wr) (hs:a.eval s=v) (hown:ownsW w base v l)
   (B off c n:Nat) (hx:a.eval x=.slice (some ⟨B,off,none⟩) n c) (m:List Wr) (hn:n=m.length) (hcell:∀ j u,(wrsC m)[j]? = some u→w.cell? ⟨B,off + j,none⟩=some u)
   (hm:0 < m.length) (hlen:l.length + m.length≤1000000) (hbase:base≤w.heap.size)
   (h:∀ g cap w',ownsW w' base (.slice (some ⟨g,0,none⟩) (l.length + m.length) cap) (l ++ m)→w.grownBy w' v.ownBlock→wpList Tryz.prog ops Q rest (a.put o.dst (.slice (some ⟨g,0,none⟩) (l.length + m.length) cap)) w'):wpList Tryz.prog ops Q (o :: rest) a w:=by
 subst hn
 obtain ⟨i0,hi,hz0,hz1,hz2⟩:=info_parts info_wr
 refine wpList_append_lies w hgd s x 28 ho base 26 i0 (.agg #[.int .i64 0,.int .i64 0,.int .i64 0,.string ⟨#[]⟩,.string ⟨#[]⟩,.int .i64 0]) 6 64 Tryz.underlying28 hi hz0 hz1 hz2 rfl (by decide) v l.length (wrsC l) hs hown ⟨B,off,none⟩ m.length c (wrsC m) hx (wrsC_len m) ?_ (wrsC_cell m) hm (by unfold maxLen;omega) (by omega) hbase _ rfl ?_
 · intro j u hj
   have hadd:(⟨B,off,none⟩:Addr).add j=⟨B,off + j,none⟩:=by unfold Addr.add;split <;> simp_all
   rw [hadd];exact hcell j u hj
 · intro g cap w' h1 h2 _ _
   refine h g cap w' ?_ h2
   unfold ownsW
   rw [List.length_append,wrsC_app]
   exact h1
theorem ownsW_none (w:World):ownsW (w.alloc (.cells #[] 26)) w.heap.size (.slice (some ⟨w.heap.size,0,none⟩) 0 0) [] :=
 ⟨rfl,.inr ⟨w.heap.size,0,#[],rfl,Nat.le_refl _,heap_alloc_new w _,Nat.le_refl _,Nat.zero_le _,rfl,rfl⟩⟩
set_option maxRecDepth 100000 in
set_option maxHeartbeats 4000000 in
theorem clone_wrs (v:Value) (l:List Wr) (w:World) (hv:IsWrs w v l) (h0:0 < l.length) (h6:l.length≤1000000) :
   Calls Tryz.prog 72 #[v] w fun e w'=>∃ v',e=.returned v'∧ownsW w' w.heap.size v' l∧Below w.heap.size w w':=by
 rcases hv with ⟨a,c,rfl,rfl⟩ | ⟨b,off,c,rfl,h1,h2,h3⟩
 · exact absurd h0 (Nat.lt_irrefl _)
 · have H3:=Lib.hid h3
   obtain ⟨n,hn⟩:∃ n,n=l.length:=⟨_,rfl⟩
   rw [←hn] at h1 h0 h6 ⊢
   have HN:=Lib.hid hn
   clear h3 hn
   have heq:∀ w:World,(binOp BinOp.eql 28 (.slice (some ⟨b,off,none⟩) n c) (.slice none 0 0)).run Tryz.prog w=.ok (.bool false) w:=fun w=>Go.Lib.run_eql_slice_nil w _ _ (some ⟨b,off,none⟩) n c 0 0 Tryz.underlying28
   go_enter Tryz.func72,Tryz.ntmps72
   go_wp2_with (at_builtin;refine wpList_append_wrs rfl _ _ rfl w.heap.size _ [] rfl (ownsW_none w) b off c n rfl l HN.out ?c1 ?c2 ?c3 ?c4 ?_)
   case c1=>exact fun j u hj=>(World.cell?_alloc_lt w _ (⟨b,off + j,none⟩:Addr) h2).trans (H3.out j u hj)
   case c2=>have:=HN.out;omega
   case c3=>have:=HN.out;simp;omega
   case c4=>simp
   intro g cap w' ho hg
   have HO:=Lib.hid ho
   have HB:Hid (Below w.heap.size w w'):=Lib.hid (((Below.refl _ _).alloc (Nat.le_refl _) _).grown hg (by simp) (fun k hk=>by
     have e:w.heap.size=k:=by simpa [Value.ownBlock] using hk
     omega))
   clear ho hg
   go_wp2
   go_ret
   exact ⟨_,rfl,by simpa using HO.out,HB.out⟩
end Go.Proofs.YtddbpnplbcjpgaaGreatDoor
namespace Go.Proofs.YtddbpnplbcjpgaaGreatDoor
open Go.RowKit
instance : DecidableEq Wr := fun a b => decidable_of_iff (a.time = b.time ∧ a.rep = b.rep ∧ a.kind = b.kind ∧ a.key = b.key ∧ a.value = b.value ∧ a.n = b.n) (by cases a; cases b; simp)
theorem wq_step {l m:List Wr} {k:Nat} (h:l.take k=m.take k) {t u:Wr} (hl:l[k]? = some t) (hm:m[k]? = some u) (e:t=u):l.take (k + 1)=m.take (k + 1):=by
 obtain ⟨h1,h2⟩:=List.getElem?_eq_some_iff.1 hl
 obtain ⟨h3,h4⟩:=List.getElem?_eq_some_iff.1 hm
 rw [List.take_succ_eq_append_getElem h1,List.take_succ_eq_append_getElem h3,h,h2,h4,e]
set_option maxRecDepth 100000 in
set_option maxHeartbeats 4000000 in
theorem equal_wrs (v1 v2:Value) (l m:List Wr) (w:World) (h1:IsWrs w v1 l) (h2:IsWrs w v2 m) (hl:l.length≤9223372036854775807) (hm:m.length≤9223372036854775807) :
   Calls Tryz.prog 17 #[v1,v2] w fun e w'=>e=.returned (.bool (decide (l=m)))∧∃ q,w'=w.drewN q:=by
 obtain ⟨a1,c1,rfl,f1⟩:=h1.form
 obtain ⟨a2,c2,rfl,f2⟩:=h2.form
 have F1:=Lib.hid f1
 have F2:=Lib.hid f2
 obtain ⟨n,hn⟩:∃ n,n=l.length:=⟨_,rfl⟩
 obtain ⟨n2,hn2⟩:∃ n,n=m.length:=⟨_,rfl⟩
 rw [←hn] at hl ⊢
 rw [←hn2] at hm ⊢
 have HN:=Lib.hid hn
 have HN2:=Lib.hid hn2
 clear h1 h2 f1 f2 hn hn2
 by_cases hne:n=n2
 · subst hne
   go_enter Tryz.func17,Tryz.ntmps17
   go_wp2
   go_loopw [13] (fun i wr=>∃ k q:Nat,k≤n∧i=.int .i64 k∧l.take k=m.take k∧wr=w.drewN q) (fun i _=>n - (intOf i).toNat)
   case atStart=>exact ⟨0,0,by omega,rfl,rfl,rfl⟩
   case round =>
     obtain ⟨k,q,hk,rfl,htk,rfl⟩:=hrel
     have HTK:=Lib.hid htk
     clear htk
     by_cases hlt:k < n
     · obtain ⟨t, ht⟩ : ∃ t, l[k]? = some t := ⟨l[k]'(by have := HN.out; omega), List.getElem?_eq_getElem _⟩
       obtain ⟨u, hu⟩ : ∃ u, m[k]? = some u := ⟨m[k]'(by have := HN2.out; omega), List.getElem?_eq_getElem _⟩
       obtain ⟨b1,o1,rfl,_,p0,p1,p2,p3,p4,p5⟩:=F1.out k t ht
       obtain ⟨b2,o2,rfl,_,q0,q1,q2,q3,q4,q5⟩:=F2.out k u hu
       have HTT:=Lib.hid ht
       have HUU:=Lib.hid hu
       clear ht hu
       obtain ⟨T1,R1,K1,key1,val1,N1⟩:=t
       obtain ⟨T2,R2,K2,key2,val2,N2⟩:=u
       simp only at p0 p1 p2 p3 p4 p5 q0 q1 q2 q3 q4 q5
       by_cases he0:T1=T2
       · subst he0
         by_cases he1:R1=R2
         · subst he1
           by_cases he2:K1=K2
           · subst he2
             by_cases he3:key1=key2
             · subst he3
               by_cases he4:val1=val2
               · subst he4
                 by_cases he5:N1=N2
                 · subst he5
                   have HST:=Lib.hid (wq_step HTK.out HTT.out HUU.out rfl)
                   go_wp2
                   go_quiet (fail)
                   go_wp2
                   go_roundw
                   case rel=>exact ⟨k + 1,_,by omega,by go_num,HST.out,rfl⟩
                   case measure=>simp [intOf];omega
                 · have HE : Hid (decide (l = m) = false) := Lib.hid (show decide (l = m) = false by
                     rw [decide_eq_false_iff_not];rintro rfl
                     have:=HTT.out.symm.trans HUU.out
                     simp only [Option.some.injEq,Wr.mk.injEq] at this
                     exact he5 this.2.2.2.2.2)
                   have x1:(N1 == N2)=false:=by simpa using he5
                   have x2:(N1 != N2)=true:=by simpa using he5
                   go_wp2
                   go_quiet (fail)
                   go_wp2
                   go_ret
                   exact ⟨by rw [HE.out];rfl,by first | exact ⟨_,rfl⟩ | exact ⟨_,by rw [World.drewN_drewN]⟩⟩
               · have HE : Hid (decide (l = m) = false) := Lib.hid (show decide (l = m) = false by
                   rw [decide_eq_false_iff_not];rintro rfl
                   have:=HTT.out.symm.trans HUU.out
                   simp only [Option.some.injEq,Wr.mk.injEq] at this
                   exact he4 this.2.2.2.2.1)
                 have x1:(val1.toList == val2.toList)=false:=by rw [ByteArray.toList_eq,ByteArray.toList_eq,beq_eq_false_iff_ne];intro e9;exact he4 (bytes_ext e9)
                 have x2:(val1.toList != val2.toList)=true:=by rw [bne,x1];rfl
                 go_wp2
                 go_quiet (fail)
                 go_wp2
                 go_ret
                 exact ⟨by rw [HE.out];rfl,by first | exact ⟨_,rfl⟩ | exact ⟨_,by rw [World.drewN_drewN]⟩⟩
             · have HE : Hid (decide (l = m) = false) := Lib.hid (show decide (l = m) = false by
                 rw [decide_eq_false_iff_not];rintro rfl
                 have:=HTT.out.symm.trans HUU.out
                 simp only [Option.some.injEq,Wr.mk.injEq] at this
                 exact he3 this.2.2.2.1)
               have x1:(key1.toList == key2.toList)=false:=by rw [ByteArray.toList_eq,ByteArray.toList_eq,beq_eq_false_iff_ne];intro e9;exact he3 (bytes_ext e9)
               have x2:(key1.toList != key2.toList)=true:=by rw [bne,x1];rfl
               go_wp2
               go_quiet (fail)
               go_wp2
               go_ret
               exact ⟨by rw [HE.out];rfl,by first | exact ⟨_,rfl⟩ | exact ⟨_,by rw [World.drewN_drewN]⟩⟩
           · have HE : Hid (decide (l = m) = false) := Lib.hid (show decide (l = m) = false by
               rw [decide_eq_false_iff_not];rintro rfl
               have:=HTT.out.symm.trans HUU.out
               simp only [Option.some.injEq,Wr.mk.injEq] at this
               exact he2 this.2.2.1)
             have x1:(K1 == K2)=false:=by simpa using he2
             have x2:(K1 != K2)=true:=by simpa using he2
             go_wp2
             go_quiet (fail)
             go_wp2
             go_ret
             exact ⟨by rw [HE.out];rfl,by first | exact ⟨_,rfl⟩ | exact ⟨_,by rw [World.drewN_drewN]⟩⟩
         · have HE : Hid (decide (l = m) = false) := Lib.hid (show decide (l = m) = false by
             rw [decide_eq_false_iff_not];rintro rfl
             have:=HTT.out.symm.trans HUU.out
             simp only [Option.some.injEq,Wr.mk.injEq] at this
             exact he1 this.2.1)
           have x1:(R1 == R2)=false:=by simpa using he1
           have x2:(R1 != R2)=true:=by simpa using he1
           go_wp2
           go_quiet (fail)
           go_wp2
           go_ret
           exact ⟨by rw [HE.out];rfl,by first | exact ⟨_,rfl⟩ | exact ⟨_,by rw [World.drewN_drewN]⟩⟩
       · have HE : Hid (decide (l = m) = false) := Lib.hid (show decide (l = m) = false by
           rw [decide_eq_false_iff_not];rintro rfl
           have:=HTT.out.symm.trans HUU.out
           simp only [Option.some.injEq,Wr.mk.injEq] at this
           exact he0 this.1)
         have x1:(T1 == T2)=false:=by simpa using he0
         have x2:(T1 != T2)=true:=by simpa using he0
         go_wp2
         go_quiet (fail)
         go_wp2
         go_ret
         exact ⟨by rw [HE.out];rfl,by first | exact ⟨_,rfl⟩ | exact ⟨_,by rw [World.drewN_drewN]⟩⟩
     · have HE : Hid (decide (l = m) = true) := Lib.hid (show decide (l = m) = true by
         rw [decide_eq_true_eq]
         have h:=HTK.out
         rw [List.take_of_length_le (by have:=HN.out;omega),List.take_of_length_le (by have:=HN2.out;omega)] at h
         exact h)
       go_wp2
       go_ret
       exact ⟨by rw [HE.out];rfl,by first | exact ⟨_,rfl⟩ | exact ⟨_,by rw [World.drewN_drewN]⟩⟩
 · have HE : Hid (decide (l = m) = false) := Lib.hid (show decide (l = m) = false by
     rw [decide_eq_false_iff_not];rintro rfl;exact hne (HN.out.trans HN2.out.symm))
   have x1:((n:Int) == (n2:Int))=false:=by simp;omega
   have x2:((n:Int) != (n2:Int))=true:=by simp;omega
   rw [HE.out]
   go_enter Tryz.func17,Tryz.ntmps17
   go_wp2
   go_ret
   exact ⟨rfl,0,rfl⟩
theorem equalw_as (v1 v2:Value) (l m:List Wr) (c:Bool) (w:World) (h1:IsWrs w v1 l) (h2:IsWrs w v2 m) (hl:l.length≤9223372036854775807) (hm:m.length≤9223372036854775807) (hc:decide (l=m)=c) :
   Calls Tryz.prog 17 #[v1,v2] w fun e w'=>e=.returned (.bool c)∧∃ q,w'=w.drewN q :=
 (equal_wrs v1 v2 l m w h1 h2 hl hm).mono fun _ _ ⟨h1,h2⟩=>⟨by rw [h1,hc],h2⟩
end Go.Proofs.YtddbpnplbcjpgaaGreatDoor
namespace Go.Proofs.YtddbpnplbcjpgaaGreatDoor
open Go.ChangeShapes Go.WideShapes Go.ChangeAt Go.RowKit
theorem three_fieldsB {H:Type} {enc:TypeId×Value→H} {P:Program} {W:World} {spare:Nat→Bool} {held:Bool} {n:Nat} {t:TypeId} {cs:List Value} {x:DataW H×List MemPlace} {p q r:Field}
   (ht:P.underlying t=some (.struct #[p,q,r])) (h1:Go.Deep.oneCellFields P #[p,q,r]=true) (h3:P.cellsOf t=3)
   (h:DataW.trod enc P W 0 spare held n t cs=some x) :
   ∃ (a b c:Value) (u v w:DataW H×List MemPlace) (m:Nat),cs=[a,b,c]∧x.1=.agg [u.1,v.1,w.1] ∧
     DataW.trod enc P W 0 spare held m p.type [a]=some u∧DataW.trod enc P W 0 spare held m q.type [b]=some v∧DataW.trod enc P W 0 spare held m r.type [c]=some w:=by
 obtain ⟨xs,m,_,hx,hl,hxl,hf⟩:=DataW.trod_struct ht h
 rw [h3] at hl
 have hxl':xs.length=3:=hxl
 match cs,hl with
 | [a,b,c],_ =>
   match xs,hxl' with
   | [u,v,w],_ =>
     have one:=Go.Deep.hone_of h1
     have g0:=hf 0 p rfl
     have g1:=hf 1 q rfl
     have g2:=hf 2 r rfl
     rw [(one 0 p rfl).1,(one 0 p rfl).2] at g0
     rw [(one 1 q rfl).1,(one 1 q rfl).2] at g1
     rw [(one 2 r rfl).1,(one 2 r rfl).2] at g2
     exact ⟨a,b,c,u,v,w,m,rfl,by rw [hx];rfl,g0,g1,g2⟩
theorem slice_of {H:Type} {enc:TypeId×Value→H} {P:Program} {W:World} {spare:Nat→Bool} {held:Bool} {n:Nat} {t e:TypeId} {v:Value} {x:DataW H×List MemPlace}
   (ht:P.underlying t=some (.slice e)) (h:DataW.trod enc P W 0 spare held n t [v]=some x):∃ a n c,v=.slice a n c:=by
 rcases Go.Deep.open_slice ht h with ⟨hcs,_⟩ | ⟨a,ln,cp,m,n,D,Pl,hcs,_⟩
 · exact ⟨_,_,_,List.head_eq_of_cons_eq hcs⟩
 · exact ⟨_,_,_,List.head_eq_of_cons_eq hcs⟩
theorem wr_weight {H:Type} (ds:List (DataW H)) (t:Wr) (h:wrD t∈ds):t.key.size∈DataW.weightsAll Tryz.prog 26 ds∧t.value.size∈DataW.weightsAll Tryz.prog 26 ds:=by
 induction ds with
 | nil=>cases h
 | cons d r ih =>
   rw [DataW.weightsAll]
   rcases List.mem_cons.1 h with h | h
   · have g : t.key.size ∈ DataW.weights Tryz.prog 26 (wrD t : DataW H) ∧ t.value.size ∈ DataW.weights Tryz.prog 26 (wrD t : DataW H) := by
       constructor
       · unfold wrD
         rw [DataW.weights,Tryz.underlying26]
         simp [DataW.weightsEach,DataW.weights,Tryz.underlying24]
       · unfold wrD
         rw [DataW.weights,Tryz.underlying26]
         simp [DataW.weightsEach,DataW.weights,Tryz.underlying24]
     rw [←h]
     exact ⟨List.mem_append_left _ g.1,List.mem_append_left _ g.2⟩
   · exact ⟨List.mem_append_right _ (ih h).1,List.mem_append_right _ (ih h).2⟩
theorem wrsArg {H:Type} {enc:TypeId×Value→H} {W:World} {spare:Nat→Bool} {held:Bool} {a0:Option Addr} {len0 cap0 fuel:Nat} {d:DataW H} {p:List MemPlace}
   (hf:DataW.trod enc Tryz.prog W 0 spare held fuel 28 [.slice a0 len0 cap0]=some (d,p))
   (hw:∀ x∈DataW.weights Tryz.prog 28 d,x≤reachBytes) :
   ∃ l:List Wr,IsWrs W (.slice a0 len0 cap0) l∧l.length=len0∧len0≤cap0∧cap0≤maxLen∧∀ t∈l,WrOk t:=by
 rcases Go.Deep.open_slice Tryz.underlying28 hf with ⟨hcs,_⟩ | ⟨a,ln,cp,m,n,D,Pl,hcs,_,hl,hm,hmm,hx,hi⟩
 · simp only [List.cons.injEq,Value.slice.injEq,and_true] at hcs
   obtain ⟨rfl,rfl,rfl⟩:=hcs
   exact ⟨[],.inl ⟨_,_,rfl,rfl⟩,rfl,Nat.le_refl _,by unfold maxLen;omega,fun t h=>by cases h⟩
 · simp only [List.cons.injEq,Value.slice.injEq,and_true] at hcs
   obtain ⟨rfl,rfl,rfl⟩:=hcs
   have h3:Tryz.prog.cellsOf 26=6:=by kernel_rfl
   rw [h3] at hi
   have hle:len0≤m:=by rw [hmm];split <;> omega
   obtain ⟨f,hfc⟩:=Go.Deep.choose_lt (n:=len0) (p:=fun i (t:Wr)=>W.cells? 0 (a.add (i * 6)) 6=some (wrC t)∧D i=wrD t∧-9223372036854775808≤t.n∧t.n≤9223372036854775807) (fun i hlt=>by
     obtain ⟨cs',hc,ht⟩:=hi i (by omega)
     obtain ⟨t,h1,h2,h4⟩:=wr_elem ht
     exact ⟨t,by rw [hc,h1],h2,h4⟩)
   have hll:((List.range len0).map f).length=len0:=by simp
   refine ⟨(List.range len0).map f,?_,hll,hl,hm,fun t ht=>?_⟩
   · by_cases hz:len0=0
     · subst hz;exact .inl ⟨_,_,rfl,rfl⟩
     · obtain ⟨b,off,spot⟩:=a
       have hcell:∀ i,i < len0→∀ r,r < 6→W.cell? ((⟨b,off,spot⟩:Addr).add (i * 6 + r))=(wrC (f i))[r]? := fun i hlt r hr=>by
         obtain ⟨_,_,hat⟩:=World.cells?_some (hfc i hlt).1
         rw [←Go.Deep.add_add];exact hat r hr
       have h0:=hcell 0 (by omega) 0 (by omega)
       have hspot:spot=none:=by simpa [Addr.add] using World.cell?_spot (h0.trans rfl)
       subst hspot
       refine .inr ⟨b,off,cap0,by rw [hll],by rw [hll];omega,block_lt_of_cell (h0.trans rfl),fun j u hj=>?_⟩
       have hjl:j < len0 * 6:=by rw [←hll,←wrsC_len];exact (List.getElem?_eq_some_iff.1 hj).1
       have hc:=hcell (j / 6) (by omega) (j % 6) (Nat.mod_lt _ (by decide))
       have hti:((List.range len0).map f)[j / 6]? = some (f (j / 6)):=by
         rw [List.getElem?_map,List.getElem?_range (by omega)];rfl
       have h5:=wrsC_at _ _ (j % 6) _ hti (Nat.mod_lt _ (by decide))
       rw [show j / 6 * 6 + j % 6=j by omega] at hc h5
       rw [←h5,hj] at hc
       rw [←hc]
       refine congrArg W.cell? ?_
       unfold Addr.add
       split
       · rename_i e;rw [e];rfl
       · rfl
   · obtain ⟨i,hir,hit⟩:=List.mem_map.1 ht
     have hil:=List.mem_range.1 hir
     have hd:d=.slice ((List.range len0).map D) ((List.range (m - len0)).map fun j=>D (len0 + j)):=(Prod.mk.inj hx).1
     have hmem:wrD t∈(List.range len0).map D:=List.mem_map.2 ⟨i,hir,by rw [(hfc i hil).2.1,hit]⟩
     have hwt:=wr_weight _ t hmem
     have hin:∀ y∈DataW.weightsAll Tryz.prog 26 ((List.range len0).map D),y≤reachBytes:=fun y hy=>hw y (by
       rw [hd,DataW.weights,Tryz.underlying28]
       exact List.mem_cons_of_mem _ (List.mem_append_left _ hy))
     have g1:=hin _ hwt.1
     have g2:=hin _ hwt.2
     unfold reachBytes at g1 g2
     have hn:=(hfc i hil).2.2
     rw [hit] at hn
     exact ⟨hn.1,hn.2,by omega,by omega⟩
def BatIs (W:World) (vf vh vw:Value) (f h:List Ent) (l:List Wr):Prop :=
 IsEnts W vf f∧IsEnts W vh h∧IsWrs W vw l∧f.length≤9223372036854775807∧h.length≤9223372036854775807∧l.length≤9223372036854775807∧∀ t∈l,WrOk t
theorem BatIs.below {w w':World} {vf vh vw:Value} {f h:List Ent} {l:List Wr} (hx:BatIs w vf vh vw f h l) (hb:Below w.heap.size w w'):BatIs w' vf vh vw f h l :=
 ⟨hx.1.below hb,hx.2.1.below hb,hx.2.2.1.below hb,hx.2.2.2⟩
theorem BatIs.alloc {w:World} {vf vh vw:Value} {f h:List Ent} {l:List Wr} (hx:BatIs w vf vh vw f h l) (o:Obj):BatIs (w.alloc o) vf vh vw f h l :=
 hx.below ((Below.refl _ _).alloc (Nat.le_refl _) o)
end Go.Proofs.YtddbpnplbcjpgaaGreatDoor
namespace Go.Proofs.YtddbpnplbcjpgaaGreatDoor
open Go.Maps
structure CV where
 key:ByteArray
 has:Bool
 text:ByteArray
 sum:Int
 list:Value
def cvC (c:CV):List Value:=[.string c.key,.bool c.has,.string c.text,.int .i64 c.sum,c.list]
def cvV (c:CV):Value:=.agg (cvC c).toArray
def cv0:CV:=⟨⟨#[]⟩,false,⟨#[]⟩,0,.slice none 0 0⟩
instance : Inhabited CV := ⟨cv0⟩
theorem cvV_inj {a b:CV} (h:cvV a=cvV b):a=b:=by
 cases a;cases b
 injection h with h
 cases h
 rfl
open Classical in
noncomputable def cellR (v:Value):Option (DataW Value×List MemPlace):=if ∃ c,v=cvV c then some (.held v,[]) else none
theorem cellR_mk (c:CV):cellR (cvV c)=some (.held (cvV c),[]):=by unfold cellR;rw [if_pos ⟨c,rfl⟩]
theorem cellR_inv {v:Value} {z:DataW Value×List MemPlace} (h:cellR v=some z):∃ c,v=cvV c∧z=(.held (cvV c),[]):=by
 unfold cellR at h
 split at h
 · rename_i hc
   obtain ⟨c,rfl⟩:=hc
   exact ⟨c,rfl,(Option.some.inj h).symm⟩
 · cases h
def upd {α:Type} (f:ByteArray→α) (k:ByteArray) (x:α):ByteArray→α:=fun j=>if j=k then x else f j
theorem upd_same {α:Type} (f:ByteArray→α) (k:ByteArray) (x:α):upd f k x k=x:=if_pos rfl
theorem upd_other {α:Type} (f:ByteArray→α) {k j:ByteArray} (x:α) (h:j≠k):upd f k x j=f j:=if_neg h
def cvOf (G:ByteArray→Cel) (L:ByteArray→Value) (k:ByteArray):CV:=if live (G k)=true then ⟨k,(G k).has,(G k).text,(G k).sum,L k⟩ else cv0
theorem cvOf_live {G:ByteArray→Cel} {L:ByteArray→Value} {k:ByteArray} (h:live (G k)=true):cvOf G L k=⟨k,(G k).has,(G k).text,(G k).sum,L k⟩:=if_pos h
theorem cvOf_dead {G:ByteArray→Cel} {L:ByteArray→Value} {k:ByteArray} (h:live (G k)=false):cvOf G L k=cv0:=if_neg (by rw [h];simp)
structure StoD (D:DataW Value) (G:ByteArray→Cel) (L:ByteArray→Value):Prop where
 isMap:IsMap D
 has:∀ k,Maps.has D (keyL k)=live (G k)
 at':∀ k,D.atKey (keyL k) (.held (cvV cv0))=.held (cvV (cvOf G L k))
 dead:∀ k,live (G k)=false→G k=cel0
theorem stoD_nil:StoD (.map []) (fun _=>cel0) (fun _=>.slice none 0 0):=⟨isMap_empty,fun _=>rfl,fun k=>by rw [cvOf_dead (by rfl)];rfl,fun _ _=>rfl⟩
theorem StoD.put {D:DataW Value} {G:ByteArray→Cel} {L:ByteArray→Value} (h:StoD D G L) (k:ByteArray) (c:Cel) (v:Value) (hc:live c=true) :
   StoD (D.put (keyL k) (.held (cvV ⟨k,c.has,c.text,c.sum,v⟩))) (upd G k c) (upd L k v):=by
 refine ⟨h.isMap.put _ _,fun j=>?_,fun j=>?_,fun j hj=>?_⟩
 · by_cases e:j=k
   · subst e;rw [has_put_same h.isMap (keyL_key _),upd_same,hc]
   · rw [has_put_other (fun e2=>e (keyL_inj e2)),upd_other _ _ e];exact h.has j
 · by_cases e:j=k
   · subst e;rw [atKey_put_same h.isMap (keyL_key _),cvOf_live (by rw [upd_same];exact hc),upd_same,upd_same]
   · rw [atKey_put_other (fun e2=>e (keyL_inj e2)),h.at' j];unfold cvOf;rw [upd_other _ _ e,upd_other _ _ e]
 · by_cases e:j=k
   · subst e;rw [upd_same] at hj;rw [hj] at hc;cases hc
   · rw [upd_other _ _ e] at hj ⊢;exact h.dead j hj
theorem StoD.del {D:DataW Value} {G:ByteArray→Cel} {L:ByteArray→Value} (h:StoD D G L) (k:ByteArray):StoD (D.del (keyL k)) (upd G k cel0) L:=by
 refine ⟨h.isMap.del _,fun j=>?_,fun j=>?_,fun j hj=>?_⟩
 · by_cases e:j=k
   · subst e;rw [has_del_same,upd_same];rfl
   · rw [has_del_other (fun e2=>e (keyL_inj e2)),upd_other _ _ e];exact h.has j
 · by_cases e:j=k
   · subst e;rw [atKey_del_same,cvOf_dead (by rw [upd_same];rfl)]
   · rw [atKey_del_other (fun e2=>e (keyL_inj e2)),h.at' j];unfold cvOf;rw [upd_other _ _ e]
 · by_cases e:j=k
   · subst e;exact upd_same _ _ _
   · rw [upd_other _ _ e] at hj ⊢;exact h.dead j hj
theorem StoD.entry {D:DataW Value} {G:ByteArray→Cel} {L:ByteArray→Value} (h:StoD D G L) {k:ByteArray} {c:CV} (hat:∀ zd,D.atKey (keyL k) zd=.held (cvV c)):live (G k)=true∧c=⟨k,(G k).has,(G k).text,(G k).sum,L k⟩:=by
 have h1:=has_true_of_atKey hat
 rw [h.has] at h1
 refine ⟨h1,?_⟩
 have h2:=hat (.held (cvV cv0))
 rw [h.at',cvOf_live h1] at h2
 exact (cvV_inj (DataW.held.inj h2)).symm
def stepG (G:ByteArray→Cel) (x:Wr):ByteArray→Cel:=upd G x.key (stepC (G x.key) x)
def Neat (c:Cel):Prop:=c.has=false→c.text=⟨#[]⟩
theorem neat0:Neat cel0:=fun _=>rfl
theorem Neat.step {c:Cel} (h:Neat c) (x:Wr):Neat (stepC c x):=by
 unfold stepC
 split
 · intro e;cases e
 · split
   · exact neat0
   · split
     · exact h
     · split
       · exact h
       · exact h
theorem Neat.dead {c:Cel} (h:Neat c) (hd:live c=false):c=cel0:=by
 cases c with
 | mk ha te su li =>
   simp only [live,Bool.or_eq_false_iff,bne_eq_false_iff_eq,Bool.not_eq_false',List.isEmpty_iff] at hd
   obtain ⟨⟨rfl,rfl⟩,rfl⟩:=hd
   have:=h rfl
   simp only at this
   subst this
   rfl
theorem stepG_cellK (l:List Wr) (x:Wr):stepG (cellK l) x=cellK (l ++ [x]):=by
 funext j
 unfold stepG
 by_cases e:j=x.key
 · subst e;rw [upd_same];simp [cellK,List.filter_append]
 · rw [upd_other _ _ e];simp [cellK,List.filter_append,Ne.symm e]
theorem cellK_nil:cellK []=fun _=>cel0:=rfl
end Go.Proofs.YtddbpnplbcjpgaaGreatDoor
