import Derived.Test.YtjkbmfpomgcblaaGreatDoorKp15
import Derived.Test.YtjkbmfpomgcblaaGreatDoorKp14
import Derived.Test.YtjkbmfpomgcblaaGreatDoorKp09
namespace Go.Proofs.YtjkbmfpomgcblaaGreatDoor
open Go.RowKit
def numB (K N:Int):ByteArray:=if K=3 then ⟨(putL (zigN N).toNat).toArray⟩ else if K=4 then ⟨(putL N.toNat).toArray⟩ else ⟨#[]⟩
def valB (K:Int) (val:ByteArray):ByteArray:=if hasV K=true then spanB val else ⟨#[]⟩
def tailB (K:Int) (val:ByteArray) (N:Int):ByteArray:=numB K N ++ valB K val
def getN (K:Int) (l:List UInt8):Int×Nat×Nat:=if K=3 then (zagN (getL l).1,(getL l).2.1,(getL l).2.2) else if K=4 then (((intL l 1000).1:Int),(intL l 1000).2.1,(intL l 1000).2.2) else (0,0,0)
def getV (K:Int) (l:List UInt8):List UInt8×Nat×Nat:=if hasV K=true then getS l else ([],0,0)
theorem getN_le (K:Int) (l:List UInt8):(getN K l).2.1≤l.length∧(getN K l).2.1≤10:=by
 unfold getN
 rcases getL_cases l with ⟨e,hg,he⟩ | ⟨n,k,hg,hn,hk1,hk2,hk3⟩
 · split
   · rw [hg];simp
   · split
     · rw [intL_bad hg he];simp
     · simp
 · split
   · rw [hg];simp;omega
   · split
     · by_cases hm:(1000:Int) < 0∨(1000:Int) < n
       · rw [intL_range hg hm];simp
       · rw [intL_ok hg hm];simp;omega
     · simp
end Go.Proofs.YtjkbmfpomgcblaaGreatDoor
namespace Go.Proofs.YtjkbmfpomgcblaaGreatDoor
open Go.RowKit
theorem info_run:(Tryz.prog.info? 22).map (fun i=>(i.zero,i.size,i.bytes))=some (some (.slice none 0 0),1,24):=by kernel_rfl
def ownsR (w:World) (base:Nat) (v:Value) (l:List Value):Prop:=w.ownsRow base 22 1 v l.length l
theorem ownsR_nil (w:World) (base:Nat):ownsR w base (.slice none 0 0) []:=World.ownsRow_nil _ _ _ _
theorem ownsR.alloc {w:World} {base:Nat} {v:Value} {l:List Value} (h:ownsR w base v l) (o:Obj):ownsR (w.alloc o) base v l:=World.ownsRow.alloc h o
theorem ownsR.drewN {w:World} {base:Nat} {v:Value} {l:List Value} (h:ownsR w base v l) (n:Nat):ownsR (w.drewN n) base v l:=h
theorem ownsR.lt {w:World} {base:Nat} {v:Value} {l:List Value} (h:ownsR w base v l):∀ k,v.ownBlock=some k→base≤k∧k < w.heap.size:=World.ownsRow.lt h
theorem ownsR.below {w w':World} {base:Nat} {v:Value} {l:List Value} (h:ownsR w base v l) (hb:Below w.heap.size w w'):ownsR w' base v l:=by
 refine World.ownsRow.kept h (row:=none) ⟨hb.os,hb.tape,hb.output,hb.size,fun k hk _=>hb.block k hk⟩ ?_
 cases hv:v.ownBlock with
 | none=>exact .inl rfl
 | some g=>exact .inr (by simp)
theorem ownsR.forms {w:World} {base:Nat} {v:Value} {l:List Value} (h:ownsR w base v l) :
   (v=.slice none 0 0∧l=[])∨∃ g cap,v=.slice (some ⟨g,0,none⟩) l.length cap∧base≤g∧g < w.heap.size∧(∃ cur,w.heap[g]? = some (.cells cur 22 (0,0)))∧∀ j u,l[j]? = some u→w.cell? ⟨g,j,none⟩=some u:=by
 have hall:=h
 obtain ⟨h0,h1⟩:=h
 rcases h1 with ⟨rfl,hn⟩ | ⟨g,cap,cur,rfl,hb,hh,hc,hm,hs,ht⟩
 · exact .inl ⟨rfl,List.length_eq_zero_iff.1 hn⟩
 · refine .inr ⟨g,cap,rfl,hb,(World.ownsRow.lt hall g rfl).2,⟨cur,hh⟩,fun j u hj=>?_⟩
   have hjl:j < l.length:=(List.getElem?_eq_some_iff.1 hj).1
   rw [World.ownsRow.cellAt hall j (by omega)]
   exact hj
theorem wpList_append_run {w:World} {ops:Array Oper} {rest:List Oper} {o:Oper} {a:Act} {Q:Exit→Act→World→Prop} (hgd:o.guard=none) (s x:Operand)
   (ho:o.op=.call { callee:=.builtin .append,args:=#[s,x],argTypes:=#[203,203] })
   (base:Nat) (v:Value) (l:List Value) (hs:a.eval s=v) (hown:ownsR w base v l)
   (ad:Addr) (c:Nat) (hx:a.eval x=.slice (some ad) 1 c) (d:Value) (hd:∃ a n m,d=.slice a n m) (hcell:w.cell? (ad.add 0)=some d)
   (hlen:l.length + 1≤1000000) (hbase:base≤w.heap.size)
   (h:∀ g cap w',ownsR w' base (.slice (some ⟨g,0,none⟩) (l.length + 1) cap) (l ++ [d])→w.grownBy w' v.ownBlock→wpList Tryz.prog ops Q rest (a.put o.dst (.slice (some ⟨g,0,none⟩) (l.length + 1) cap)) w'):wpList Tryz.prog ops Q (o :: rest) a w:=by
 obtain ⟨i0,hi,hz0,hz1,hz2⟩:=info_parts info_run
 refine wpList_append_lies w hgd s x 203 ho base 22 i0 (.slice none 0 0) 1 24 Tryz.underlying203 hi hz0 hz1 hz2 rfl (by decide) v l.length l hs hown ad 1 c [d] hx rfl ?_ ?_ (by decide) (by unfold maxLen;omega) (by omega) hbase _ rfl ?_
 · intro j u hj
   match j,hj with
   | 0,hj=>simp at hj;subst hj;exact hcell
 · intro u hu;simp at hu;subst hu;obtain ⟨a,n,m,rfl⟩:=hd;rfl
 · intro g cap w' h1 h2 _ _
   refine h g cap w' ?_ h2
   unfold ownsR
   rw [List.length_append]
   exact h1
def areE (w:World):List Value→List (List Ent)→Prop
 | [],[]=>True
 | v :: vs,r :: rs=>IsEnts w v r∧areE w vs rs
 | _,_=>False
theorem areE_len {w:World} {vs:List Value}:∀ {rs:List (List Ent)},areE w vs rs→vs.length=rs.length:=by
 induction vs with
 | nil=>intro rs h;cases rs with
   | nil=>rfl
   | cons r rs=>exact h.elim
 | cons v vs ih=>intro rs h;cases rs with
   | nil=>exact h.elim
   | cons r rs=>simp [ih h.2]
theorem areE_snoc {w:World} {vs:List Value} {v:Value} {r:List Ent} (hv:IsEnts w v r):∀ {rs:List (List Ent)},areE w vs rs→areE w (vs ++ [v]) (rs ++ [r]):=by
 induction vs with
 | nil=>intro rs h;cases rs with
   | nil=>exact ⟨hv,trivial⟩
   | cons r rs=>exact h.elim
 | cons v vs ih=>intro rs h;cases rs with
   | nil=>exact h.elim
   | cons r rs=>exact ⟨h.1,ih h.2⟩
theorem areE_at {w:World} {vs:List Value}:∀ {rs:List (List Ent)} {i:Nat} {r:List Ent},areE w vs rs→rs[i]? = some r→∃ v,vs[i]? = some v∧IsEnts w v r:=by
 induction vs with
 | nil=>intro rs i r h hi;cases rs with
   | nil=>simp at hi
   | cons r rs=>exact h.elim
 | cons v vs ih=>intro rs i r h hi;cases rs with
   | nil=>exact h.elim
   | cons r rs=>cases i with
     | zero=>simp at hi;subst hi;exact ⟨v,by simp,h.1⟩
     | succ i=>simp at hi;obtain ⟨u,h1,h2⟩:=ih h.2 hi;exact ⟨u,by simpa using h1,h2⟩
end Go.Proofs.YtjkbmfpomgcblaaGreatDoor
namespace Go.Proofs.YtjkbmfpomgcblaaGreatDoor
open Go.RowKit
theorem listF_dup {T:List ByteArray} {l:List Int} (h:(dupR T).1≠0):listF T l=([],dupR T):=by
 unfold dupR at h ⊢
 unfold listF
 split at h
 · rename_i i hi;rw [hi]
 · simp at h
theorem listF_ord {T:List ByteArray} {l:List Int} (h:(dupR T).1=0) (ho:(ordG T.length 0 l 0).1≠0):listF T l=([],ordG T.length 0 l 0):=by
 unfold dupR at h
 unfold listF
 split at h
 · simp at h
 · rename_i hi;rw [hi];simp only [if_neg ho]
theorem listF_good {T:List ByteArray} {l:List Int} (h:(dupR T).1=0) (ho:(ordG T.length 0 l 0).1=0):listF T l=(outG T l,0,-1):=by
 unfold dupR at h
 unfold listF
 split at h
 · simp at h
 · rename_i hi;rw [hi];simp only [if_pos ho]
theorem ordG_in (K:Nat) (l:List Int):∀ told i,(ordG K told l i).1=0→∀ n∈l,0≤n∧n < (K:Int):=by
 induction l with
 | nil=>intro told i _ n hn;cases hn
 | cons z r ih =>
   intro told i h n hn
   unfold ordG at h
   split at h
   · simp at h
   · rename_i h1
     split at h
     · simp at h
     · rcases List.mem_cons.1 hn with rfl | hn
       · omega
       · exact ih _ _ h n hn
theorem outG_snoc {T:List ByteArray} {l:List Int} {k j:Nat} {s:ByteArray} (h:l[k]? = some (j:Int)) (hs:T[j]? = some s):outG T (l.take (k + 1))=outG T (l.take k) ++ [s]:=by
 obtain ⟨hk,e⟩:=List.getElem?_eq_some_iff.1 h
 rw [←List.take_append_getElem hk,e]
 unfold outG
 rw [List.map_append]
 simp [hs]
def ListIs (w:World) (r:List ByteArray×Nat×Int) (e:Ending) (w':World):Prop :=
 ∃ v err,e=.returned (.tuple #[v,err])∧ownsS w' w.heap.size v r.1∧anyErr w' err r.2∧Below w.heap.size w w'
set_option maxRecDepth 100000 in
set_option maxHeartbeats 4000000 in
theorem klist_any (v u:Value) (T:List ByteArray) (l:List Int) (w:World) (hv:IsTexts w v T) (hu:IsNums w u l) (hT:T.length≤1000000) (hl:l.length≤1000000) (hs:∀ s∈T,s.size≤140737488351232) :
   Calls Tryz.prog 162 #[v,u] w (ListIs w (listF T l)):=by
 have HV:=Lib.hid hv
 have HU:=Lib.hid hu
 have HS:=Lib.hid hs
 have HTL:=Lib.hid hT
 have HLL:=Lib.hid hl
 obtain ⟨a1,c1,rfl,_,f1⟩:=hv
 obtain ⟨a2,c2,rfl,_,f2⟩:=hu
 have F1:=Lib.hid f1
 have F2:=Lib.hid f2
 obtain ⟨m,hm⟩:∃ m,m=T.length:=⟨_,rfl⟩
 obtain ⟨n,hn⟩:∃ n,n=l.length:=⟨_,rfl⟩
 rw [←hm] at hT HV ⊢
 rw [←hn] at hl HU ⊢
 have HM:=Lib.hid hm
 have HN:=Lib.hid hn
 clear f1 f2 hm hn hs hT hl
 go_enter Tryz.func162,Tryz.ntmps162
 go_wp2_with fail
 refine (ktwice_any _ T w HV.out HTL.out HS.out).mono ?_
 rintro r w1 ⟨err,rfl,he,hb1⟩
 by_cases h0:(dupR T).1=0
 · obtain rfl:=anyErr.nil (.inl he) h0
   have HU1:=Lib.hid (HU.out.below hb1)
   have HB1:=Lib.hid hb1
   have H0:=Lib.hid h0
   clear he hb1 h0
   go_wp2_with fail
   refine (korder_any _ l m w1 HU1.out HLL.out (by rw [HM.out];exact HTL.out)).mono ?_
   rintro r w2 ⟨err,rfl,he,hb2⟩
   have HB2:=Lib.hid (HB1.out.trans (hb2.mono HB1.out.size))
   by_cases h1:(ordG m 0 l 0).1=0
   · obtain rfl:=he.nil h1
     have HR:Hid (listF T l=(outG T l,0,-1)):=Lib.hid (listF_good H0.out (by rw [←HM.out];exact h1))
     have HI:=Lib.hid (ordG_in m l 0 0 h1)
     have hm':m≤1000000:=by rw [HM.out];exact HTL.out
     have hn':n≤1000000:=by rw [HN.out];exact HLL.out
     clear he hb2 h1 HB1 HU1
     go_wp2
     go_loopw [8,28] (fun x i wr=>∃ k:Nat,k≤m∧i=.int .i64 k∧ownsS wr w.heap.size x (T.take k)∧Below w.heap.size w wr) (fun _ i _=>m - (intOf i).toNat)
     case atStart=>exact ⟨0,Nat.zero_le _,rfl,ownsS_nil _ _,HB2.out⟩
     case round =>
       obtain ⟨k,hk,rfl,hos,hbel⟩:=hrel
       have HO:=Lib.hid hos
       have HB:=Lib.hid hbel
       obtain ⟨ad,cp,rfl,hcp,g1⟩:=hos.isTexts
       have hkl:(T.take k).length=k:=by rw [List.length_take];have:=HM.out;omega
       have HKL:=Lib.hid hkl
       rw [hkl] at HO hcp
       rw [hkl]
       clear hos hbel hkl
       by_cases hlt:k < m
       · obtain ⟨s, hs⟩ : ∃ s, T[k]? = some s := ⟨T[k]'(by have := HM.out; omega), List.getElem?_eq_getElem _⟩
         obtain ⟨b1,o1,rfl,hb1,p0⟩:=F1.out k s hs
         have q0:=(HB.out.cell (p:=⟨b1,o1 + k,none⟩) hb1).trans p0
         have HSZ:Hid (s.size≤140737488351232):=Lib.hid (HS.out s (List.mem_of_getElem? hs))
         have HTK:Hid (T.take k ++ [s]=T.take (k + 1)):=Lib.hid (show _=_ by obtain ⟨hk2,e⟩:=List.getElem?_eq_some_iff.1 hs;rw [←e,List.take_append_getElem hk2])
         clear p0 hs g1
         go_wp2_with fail
         refine (kclone_any s _ (by have:=HSZ.out;omega)).mono ?_
         rintro r w3 ⟨rfl,hb3⟩
         have HB3:=Lib.hid (HB.out.trans (hb3.mono HB.out.size))
         have HO3:=Lib.hid (HO.out.below hb3)
         clear hb3 HB HO
         go_wp2_with (at_builtin;refine wpList_append_str rfl _ _ rfl w.heap.size _ (T.take k) rfl (HO3.out.alloc _) ⟨w3.heap.size,0,none⟩ 1 rfl s (by simp [Addr.add]) (by have:=HKL.out;omega) (by have:=HB3.out.size;simp;omega) ?_)
         intro g cap w4 ho4 hg4
         have HB4:Hid (Below w.heap.size w w4):=(HB3.out.alloc HB3.out.size _).grown hg4 (by have:=HB3.out.size;simp;omega) (fun g hg=>(HO3.out.lt g hg).1)
         rw [HTK.out] at ho4
         have HO4:=Lib.hid ho4
         clear ho4 hg4
         go_wp2
         go_roundw
         case rel=>exact ⟨k + 1,by omega,by go_num,HO4.out,HB4.out⟩
         case measure=>simp [intOf];omega
       · obtain rfl:k=m:=by omega
         have hTk:T.take k=T:=List.take_of_length_le (by rw [HM.out];exact Nat.le_refl _)
         rw [hTk] at HO g1
         obtain ⟨wp,hwp⟩:∃ wp,wp=wr:=⟨_,rfl⟩
         rw [←hwp] at HO HB g1 ⊢
         have G1:=Lib.hid g1
         clear g1 hTk hwp
         go_wp2
         go_loopw [9,40] (fun y i wo=>∃ q:Nat,q≤n∧i=.int .i64 q∧ownsS wo wp.heap.size y (outG T (l.take q))∧Below wp.heap.size wp wo) (fun _ i _=>n - (intOf i).toNat)
         case atStart=>exact ⟨0,Nat.zero_le _,rfl,ownsS_nil _ _,Below.refl _ _⟩
         case round =>
           obtain ⟨q,hq,rfl,hos,hbel⟩:=hrel
           have HO2:=Lib.hid hos
           have HBO:=Lib.hid hbel
           clear hos hbel
           by_cases hlt2:q < n
           · obtain ⟨z, hz⟩ : ∃ z, l[q]? = some z := ⟨l[q]'(by have := HN.out; omega), List.getElem?_eq_getElem _⟩
             obtain ⟨b2,o2,rfl,hb2,p2⟩:=F2.out q z hz
             obtain ⟨z0,z1⟩:=HI.out z (List.mem_of_getElem? hz)
             obtain ⟨j,rfl⟩:∃ j:Nat,z=j:=⟨z.toNat,by omega⟩
             have hjm:j < k:=by omega
             obtain ⟨s, hs⟩ : ∃ s, T[j]? = some s := ⟨T[j]'(by have := HM.out; omega), List.getElem?_eq_getElem _⟩
             obtain ⟨b3,o3,rfl,hb3,p3⟩:=G1.out j s hs
             have HBW:=Lib.hid (HB.out.trans (HBO.out.mono HB.out.size))
             have q2:=(HBW.out.cell (p:=⟨b2,o2 + q,none⟩) hb2).trans p2
             have q3:=(HBO.out.cell (p:=⟨b3,o3 + j,none⟩) hb3).trans p3
             have HX:=Lib.hid (outG_snoc hz hs)
             have hz2:(outG T (l.take q)).length=q:=by unfold outG;rw [List.length_map,List.length_take];have:=HN.out;omega
             have HZ2:=Lib.hid hz2
             clear p2 p3 hz hs z0 z1 hz2
             go_wp2_with (at_builtin;refine wpList_append_str rfl _ _ rfl wp.heap.size _ (outG T (l.take q)) rfl (HO2.out.alloc _) ⟨wr.heap.size,0,none⟩ 1 rfl s (by simp [Addr.add]) (by have:=HZ2.out;omega) (by have:=HBO.out.size;simp;omega) ?_)
             intro g cap w4 ho4 hg4
             have HB4:Hid (Below wp.heap.size wp w4):=(HBO.out.alloc HBO.out.size _).grown hg4 (by have:=HBO.out.size;simp;omega) (fun g hg=>(HO2.out.lt g hg).1)
             rw [←HX.out] at ho4
             have HO4:=Lib.hid ho4
             clear ho4 hg4
             go_wp2
             go_roundw
             case rel=>exact ⟨q + 1,by omega,by go_num,HO4.out,HB4.out⟩
             case measure=>simp [intOf];omega
           · obtain rfl:q=n:=by omega
             have hlk:l.take q=l:=List.take_of_length_le (by rw [HN.out];exact Nat.le_refl _)
             have HO3:=Lib.hid (show ownsS wr wp.heap.size _ (outG T l) from hlk ▸ HO2.out)
             clear hlk
             go_wp2
             go_ret2
             rw [HR.out]
             exact ⟨_,_,rfl,HO3.out.mono HB.out.size,.inl (.inl ⟨rfl,rfl⟩),HB.out.trans (HBO.out.mono HB.out.size)⟩
   · obtain ⟨t,x,rfl⟩:=he.iface h1
     have HR:Hid (listF T l=([],ordG m 0 l 0)):=Lib.hid (by rw [HM.out];exact listF_ord H0.out (by rw [←HM.out];exact h1))
     have HE:=Lib.hid he
     clear he hb2
     go_wp2
     go_ret2
     rw [HR.out]
     exact ⟨_,_,rfl,ownsS_nil _ _,HE.out,HB2.out⟩
 · have he2:anyErr w1 err (dupR T):=.inl he
   obtain ⟨t,x,rfl⟩:=he2.iface h0
   have HR:Hid (listF T l=([],dupR T)):=Lib.hid (listF_dup h0)
   have HE:=Lib.hid he2
   have HB1:=Lib.hid hb1
   clear he he2 hb1
   go_wp2
   go_ret2
   rw [HR.out]
   exact ⟨_,_,rfl,ownsS_nil _ _,HE.out,HB1.out⟩
end Go.Proofs.YtjkbmfpomgcblaaGreatDoor
namespace Go.Proofs.YtjkbmfpomgcblaaGreatDoor
open Go.RowKit
def tailF (T R K:Int) (key val:ByteArray) (N:Int):ByteArray×Nat:=if wriE T R K key val N=0 then (tailB K val N,0) else (⟨#[]⟩,wriE T R K key val N)
theorem tailF_bad {T R K:Int} {key val:ByteArray} {N:Int} (h:wriE T R K key val N≠0):tailF T R K key val N=(⟨#[]⟩,wriE T R K key val N):=if_neg h
theorem tailF_ok {T R K:Int} {key val:ByteArray} {N:Int} (h:wriE T R K key val N=0):tailF T R K key val N=(tailB K val N,0):=if_pos h
theorem errV_bad {e:Nat} (h:e≠0):errV e=.iface 44 (.int .i64 e):=by unfold errV;rw [if_neg h]
theorem zigN_of {N:Int} (h0 : -1125899906842624≤N) (h1:N≤1125899906842624):0≤zigN N∧zigN N≤2251799813685249:=by unfold zigN;split <;> omega
theorem numB_size {K N:Int} (h:fitsN K N=true):(numB K N).size≤10:=by
 unfold numB
 unfold fitsN at h
 by_cases h3:K=3
 · rw [if_pos h3] at h ⊢
   simp only [Bool.and_eq_true,decide_eq_true_eq] at h
   have:=zigN_of h.1 h.2
   rw [bs_size];exact putL_le10 (by omega)
 · rw [if_neg h3] at h ⊢
   by_cases h4:K=4
   · rw [if_pos h4] at h ⊢
     simp only [Bool.and_eq_true,decide_eq_true_eq] at h
     rw [bs_size];exact putL_le10 (by omega)
   · rw [if_neg h4];decide
theorem spanB_le {s:ByteArray} (h:s.size≤300):(spanB s).size≤310:=by
 rw [spanB_size];have:=putL_le10 (n:=s.size) (by omega);omega
set_option maxRecDepth 100000 in
set_option maxHeartbeats 1000000 in
theorem wnum_any (T R K:Int) (key val:ByteArray) (N:Int) (w:World) (h:fitsN K N=true) :
   Calls Tryz.prog 149 #[.agg #[.int .i64 T,.int .i64 R,.int .i64 K,.string key,.string val,.int .i64 N]] w fun e w'=>e=.returned (.string (numB K N))∧Below w.heap.size w w':=by
 unfold numB
 unfold fitsN at h
 by_cases h3:K=3
 · subst h3
   rw [if_pos rfl] at h ⊢
   simp only [Bool.and_eq_true,decide_eq_true_eq] at h
   obtain ⟨z0,z1⟩:=zigN_of h.1 h.2
   obtain ⟨n0,n1⟩:=h
   go_enter Tryz.func149,Tryz.ntmps149
   go_wp2_with fail
   refine (zig_any N _ (by omega) (by omega)).mono ?_
   rintro r w' ⟨rfl,rfl⟩
   go_wp2_with fail
   refine (put_any (zigN N) _ z0 (by omega)).mono ?_
   rintro r w2 ⟨rfl,hb2⟩
   have HB2:=Lib.hid (((Below.refl _ _).alloc (Nat.le_refl _) _).trans (hb2.mono (by simp)))
   clear hb2
   go_wp2
   go_ret
   exact ⟨rfl,HB2.out⟩
 · rw [if_neg h3] at h ⊢
   have b1:(K == 3)=false:=by simpa using h3
   by_cases h4:K=4
   · subst h4
     rw [if_pos rfl] at h ⊢
     simp only [Bool.and_eq_true,decide_eq_true_eq] at h
     obtain ⟨n0,n1⟩:=h
     have hw:IntKind.u64.wrap N=N:=IntWalk.u64_in N ⟨by omega,by omega⟩
     go_enter Tryz.func149,Tryz.ntmps149
     go_wp2_with fail
     refine (put_any N _ n0 (by omega)).mono ?_
     rintro r w2 ⟨rfl,hb2⟩
     have HB2:=Lib.hid (((Below.refl _ _).alloc (Nat.le_refl _) _).trans (hb2.mono (by simp)))
     clear hb2
     go_wp2
     go_ret
     exact ⟨rfl,HB2.out⟩
   · rw [if_neg h4]
     have b4:(K == 4)=false:=by simpa using h4
     go_enter Tryz.func149,Tryz.ntmps149
     go_wp2
     go_ret
     exact ⟨rfl,(Below.refl _ _).alloc (Nat.le_refl _) _⟩
def textV (r:ByteArray×Nat):Value:=.tuple #[.string r.1,errV r.2]
set_option maxRecDepth 100000 in
set_option maxHeartbeats 4000000 in
theorem wtail_any (T R K:Int) (key val:ByteArray) (N:Int) (w:World) (hk:key.size≤140737488351232) (hv:val.size≤140737488351232) :
   Calls Tryz.prog 94 #[.agg #[.int .i64 T,.int .i64 R,.int .i64 K,.string key,.string val,.int .i64 N]] w fun e w'=>e=.returned (textV (tailF T R K key val N))∧Below w.heap.size w w':=by
 have HN0:=Lib.hid (wrAt_new w T R K key val N 59)
 obtain ⟨E,hE⟩:∃ E,wriE T R K key val N=E:=⟨_,rfl⟩
 have HE:=Lib.hid hE
 clear hE
 go_enter Tryz.func94,Tryz.ntmps94
 go_wp2_with fail
 refine (wright_any T R K key val N _ hk hv).mono ?_
 rintro r w1 ⟨rfl,hb1⟩
 rw [HE.out]
 have HA1:=Lib.hid (HN0.out.below hb1 (by simp))
 have HB1:=Lib.hid (((Below.refl _ _).alloc (Nat.le_refl _) _).trans (hb1.mono (by simp)))
 have HL1:Hid (w.heap.size < w1.heap.size):=Lib.hid (by have:=hb1.size;simp at this;exact this)
 clear hb1
 by_cases h0:E=0
 · subst h0
   have HT:=Lib.hid (tailF_ok HE.out)
   obtain ⟨g1,g2,g3,g4,g5,g6⟩:=wriE_good HE.out
   have G6:=Lib.hid g6
   have G4:=Lib.hid g4
   clear g1 g2 g3 g5 g6
   obtain ⟨c0,c1,c2,c3,c4,c5⟩:=HA1.out
   rw [show errV 0=Value.nilIface from rfl]
   go_wp2_with fail
   refine (wnum_any T R K key val N _ G6.out).mono ?_
   rintro r w2 ⟨rfl,hb2⟩
   have HA2:=Lib.hid (HA1.out.below hb2 HL1.out)
   have HB2:=Lib.hid (HB1.out.trans (hb2.mono (Nat.le_of_lt HL1.out)))
   have hp:=numB_size G6.out
   obtain ⟨P,hP⟩:∃ P,numB K N=P:=⟨_,rfl⟩
   rw [hP] at hp ⊢
   have HP:=Lib.hid hP
   clear hb2 c0 c1 c2 c3 c4 c5 hP
   obtain ⟨c0,c1,c2,c3,c4,c5⟩:=HA2.out
   cases hV:hasV K with
   | false =>
     have HR:Hid (tailB K val N=P):=Lib.hid (show _=_ by
       unfold tailB valB;rw [HP.out,hV,if_neg (by decide)]
       exact bs_ext (by rw [app_data];simp))
     go_wp2_with (go_at_call 150;refine (hasv_any K false _ hV).mono ?_;rintro r w3 ⟨rfl,rfl⟩)
     go_ret2
     rw [HT.out,HR.out]
     exact ⟨rfl,HB2.out⟩
   | true =>
     have HR:Hid (tailB K val N=P ++ spanB val):=Lib.hid (show _=_ by unfold tailB valB;rw [HP.out,hV,if_pos rfl])
     have hs:=spanB_le g4
     obtain ⟨S,hS⟩:∃ S,spanB val=S:=⟨_,rfl⟩
     rw [hS] at hs HR
     have HS:=Lib.hid hS
     clear hS
     go_wp2_with (first
       | (go_at_call 150;refine (hasv_any K true _ hV).mono ?_;rintro r w3 ⟨rfl,rfl⟩)
       | (go_at_call 93;refine (sput_ok val _ (Nat.le_trans G4.out (by decide))).mono ?_;rintro r w4 ⟨rfl,hb4⟩;have HB4:=Lib.hid (HB2.out.trans (hb4.mono HB2.out.size));clear hb4;rw [HS.out]))
     go_ret2
     rw [HT.out,HR.out]
     exact ⟨rfl,HB4.out⟩
 · have HT:=Lib.hid (tailF_bad (by rw [HE.out];exact h0))
   rw [errV_bad h0]
   go_wp2
   go_ret2
   rw [HT.out,HE.out]
   refine ⟨?_,HB1.out⟩
   show _=Ending.returned (.tuple #[.string ⟨#[]⟩,errV E])
   rw [errV_bad h0]
   rfl
end Go.Proofs.YtjkbmfpomgcblaaGreatDoor
namespace Go.Proofs.YtjkbmfpomgcblaaGreatDoor
open Go.RowKit
def WriteIs (w:World) (l:List Tok) (e:Ending) (w':World):Prop :=
 ∃ err,e=.returned (.tuple #[.string ⟨(writeF l).toArray⟩,err])∧atIs w' err (rightF l 0 0)∧Below w.heap.size w w'
set_option maxRecDepth 100000 in
set_option maxHeartbeats 2000000 in
theorem lzwrite_any (v:Value) (l:List Tok) (w:World) (hv:IsToks w v l) (hl:l.length≤9223372036854775807) (hz:∀ t∈l,t.own.size≤140737488351232) :
   Calls Tryz.prog 141 #[v] w (WriteIs w l):=by
 have HV:=Lib.hid hv
 have HLL:=Lib.hid hl
 have HZ:=Lib.hid hz
 by_cases hr:(rightF l 0 0).1=0
 · have HR:=Lib.hid (rightF_any hr)
   have HW:Hid (writeF l=writeL l):=by
     have h:writeF l=writeL l:=by unfold writeF;rw [if_pos hr]
     exact h
   have HF:=Lib.hid (right_fine hr)
   obtain ⟨hfew,hcost,hsum⟩:=right_few hr
   have HC:=Lib.hid hcost
   have HSZ:Hid (∀ t∈l,t.own.size≤20000):=by
     have h:∀ t∈l,t.own.size≤20000:=right_own hr
     exact h
   obtain ⟨a1,c1,rfl,f1⟩:=hv.form
   have F1:=Lib.hid f1
   obtain ⟨n,hn⟩:∃ n,n=l.length:=⟨_,rfl⟩
   rw [←hn] at hl hfew ⊢ HV
   have HN:=Lib.hid hn
   have HR0:=Lib.hid hr
   clear hv f1 hn hz hr hcost hsum
   go_enter Tryz.func141,Tryz.ntmps141
   go_wp2_with fail
   refine (right_any _ l _ HV.out HLL.out HZ.out).mono ?_
   rintro r w0 ⟨err,rfl,hat,hb0⟩
   obtain rfl:err=.nilIface:=by
     rcases hat with ⟨_,h⟩ | ⟨h,_⟩
     · exact h
     · exact absurd HR0.out h
   have HB0:=Lib.hid hb0
   have hsz0:=hb0.size
   clear hat hb0
   go_wp2
   obtain ⟨B,hB⟩:∃ B,B=w0.heap.size:=⟨_,rfl⟩
   have HBN:Hid (isBld (w0.alloc (.cells #[.pointer none,.slice none 0 0] 64)) w.heap.size B []):=by
     have h:=bld_new w0 w.heap.size hsz0
     rw [←hB] at h
     exact h
   rw [←hB]
   have HBB:=Lib.hid hB
   clear hB
   go_loopw [15] (fun i wr=>∃ k:Nat,k≤n∧i=.int .i64 k∧isBld wr w.heap.size B (writeL (l.take k))∧Below w.heap.size w wr) (fun i _=>n - (intOf i).toNat)
   case atStart=>exact ⟨0,by omega,rfl,HBN.out,HB0.out.alloc hsz0 _⟩
   case round =>
     obtain ⟨k,hk,rfl,hbl,hbel⟩:=hrel
     have HBL:=Lib.hid hbl
     have HB:=Lib.hid hbel
     clear hbl hbel
     by_cases hlt:k < n
     · obtain ⟨t, ht⟩ : ∃ t, l[k]? = some t := ⟨l[k]'(by have := HN.out; omega), List.getElem?_eq_getElem _⟩
       obtain ⟨b1,o1,rfl,hb1,p0,p1,p2⟩:=F1.out k t ht
       have HSN:=Lib.hid (writeL_snoc l k t ht)
       have HTF:Hid (fine t):=(HF.out t (List.mem_of_getElem? ht)).1
       have HTS:Hid (t.own.size≤20000):=HSZ.out t (List.mem_of_getElem? ht)
       have HTC:Hid (tokV t=.agg #[.string t.own,.int .i64 t.back,.int .i64 t.size]):=rfl
       have HCT:Hid ((writeL (l.take k)).length + (putT t).length≤220000):=by
         have h:(writeL (l.take k)).length + (putT t).length≤220000:=by
           have h1:=cost_take (l:=l) (k + 1)
           unfold cost at h1
           rw [HSN.out,List.length_append] at h1
           have:=HC.out;unfold cost at this;omega
         exact h
       obtain ⟨own,back,size⟩:=t
       simp only at p0 p1 p2
       have q0:=(HB.out.cell (p:=⟨b1,o1 + k * 3,none⟩) hb1).trans p0
       have q1:=(HB.out.cell (p:=⟨b1,o1 + k * 3 + 1,none⟩) hb1).trans p1
       have q2:=(HB.out.cell (p:=⟨b1,o1 + k * 3 + 2,none⟩) hb1).trans p2
       have hzr:=HB.out.size
       clear p0 p1 p2 ht
       go_wp2_with fail
       refine (lzput_any ⟨own,back,size⟩ _ HTF.out HTS.out).mono ?_
       rintro r w1 ⟨rfl,hb1'⟩
       have HBL1:=Lib.hid ((HBL.out.alloc (.cells #[.string own,.int .i64 back,.int .i64 size] 224)).below hb1')
       have HB1:Hid (Below w.heap.size w w1):=(HB.out.alloc hzr _).trans (hb1'.mono (by simp;omega))
       have hzr1:=HB1.out.size
       clear hb1' q0 q1 q2
       go_wp2_with fail
       refine (bld_write w.heap.size B _ _ _ HBL1.out (by rw [bs_size];have:=HCT.out;omega) hzr1).mono ?_
       rintro r w2 ⟨rfl,hbl2,hb2⟩
       have HBL2:Hid (isBld w2 w.heap.size B (writeL (l.take (k + 1)))):=by
         have h:isBld w2 w.heap.size B (writeL (l.take (k + 1))):=by rw [HSN.out];exact hbl2
         exact h
       have HB2:=Lib.hid (HB1.out.trans hb2)
       clear hbl2 hb2
       go_wp2
       go_roundw
       case rel=>exact ⟨k + 1,by omega,by go_num,HBL2.out,HB2.out⟩
       case measure=>simp [intOf];omega
     · have hkn:k=n:=by omega
       have HBL':Hid (isBld wr w.heap.size B (writeF l)):=by
         have h:isBld wr w.heap.size B (writeF l):=by
           have h:=HBL.out
           rw [hkn,HN.out,List.take_length] at h
           rw [HW.out];exact h
         exact h
       have hzr:=HB.out.size
       clear hkn
       go_wp2_with fail
       refine (bld_string w.heap.size B _ _ HBL'.out hzr).mono ?_
       rintro r w1 ⟨rfl,hb1⟩
       have HB1:=Lib.hid (HB.out.trans hb1)
       clear hb1
       go_wp2
       go_ret2
       exact ⟨.nilIface,rfl,.inl ⟨HR.out,rfl⟩,HB1.out⟩
 · have HW : Hid (writeF l = []) := by
     have h:writeF l=[]:=by unfold writeF;rw [if_neg hr]
     exact h
   have HR0:=Lib.hid hr
   obtain ⟨a1,c1,rfl,f1⟩:=hv.form
   clear hv hz hr f1
   go_enter Tryz.func141,Tryz.ntmps141
   go_wp2_with fail
   refine (right_any _ l _ HV.out HLL.out HZ.out).mono ?_
   rintro r w0 ⟨err,rfl,hat,hb0⟩
   have HAT:=Lib.hid hat
   have HB0:=Lib.hid hb0
   clear hb0
   obtain ⟨t,u,rfl⟩:∃ t u,err=.iface t u:=by
     rcases hat with ⟨h,_⟩ | ⟨_,b,h,_⟩
     · exact absurd (by rw [h]) HR0.out
     · exact ⟨_,_,h⟩
   clear hat
   go_wp2
   go_ret2
   exact ⟨_,by rw [HW.out];rfl,HAT.out,HB0.out⟩
end Go.Proofs.YtjkbmfpomgcblaaGreatDoor
