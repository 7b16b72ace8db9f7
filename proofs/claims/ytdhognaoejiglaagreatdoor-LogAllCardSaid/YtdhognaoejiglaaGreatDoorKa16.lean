import Derived.Test.YtdhognaoejiglaaGreatDoorKa15
namespace Go.Proofs.YtdhognaoejiglaaGreatDoor
open Lib (hid)
set_option maxRecDepth 100000
set_option maxHeartbeats 8000000
section
open Go.RowKit
def intL (l:List UInt8) (most:Int):Nat×Nat×Nat :=
 if (getL l).2.2≠0 then (0,0,(getL l).2.2) else if most<0∨most<(getL l).1 then (0,0,2) else getL l
def intV (r:Nat×Nat×Nat):Value:=.tuple #[.int .i64 r.1,.int .i64 r.2.1,errV r.2.2]
theorem ji {l:List UInt8} {most:Int} {e:Nat} (h:getL l=(0,0,e)) (he:e≠0):intL l most=(0,0,e):=by
 unfold intL;rw [h];rw [if_pos (by exact he)]
theorem gY {l:List UInt8} {most:Int} {n k:Nat} (h:getL l=(n,k,0)) (hm:most<0∨most<n):intL l most=(0,0,2):=by
 unfold intL;rw [h];rw [if_neg (by simp),if_pos hm]
theorem fQ {l:List UInt8} {most:Int} {n k:Nat} (h:getL l=(n,k,0)) (hm:¬ (most<0∨most<n)):intL l most=(n,k,0):=by
 unfold intL;rw [h];rw [if_neg (by simp),if_neg hm]
theorem dO (l:List UInt8):(∃ e,getL l=(0,0,e)∧e≠0)∨∃ n k,getL l=(n,k,0)∧n≤18446744073709551615∧1≤k∧k≤10∧k≤l.length:=by
 unfold getL;split
 ·rename_i e he;refine .inl ⟨e,rfl,?_⟩;have:=uv _ _ _ he;omega
 ·rename_i k hk;obtain ⟨a,b,c,d⟩:=Ey hk;exact .inr ⟨_,_,rfl,by omega,a,b,c⟩
theorem gn (s:ByteArray) (most:Int) (w:World) (hs:s.size≤maxLen) (h0 : -9223372036854775808≤most) (h1:most≤9223372036854775807) :
 Calls Tryz.prog 155 #[.string s,.int .i64 most] w fun r w'=>r=.returned (intV (intL s.data.toList most))∧w=w':=by
 rcases dO s.data.toList with ⟨e,hg,he⟩ | ⟨n,k,hg,hn,hk1,hk2,hk3⟩
 ·have HP : Hid (intV (intL s.data.toList most) = .tuple #[.int .i64 0, .int .i64 0, .iface 68 (.int .i64 e)]) := by
   show intV _=_
   rw [ji hg he];unfold intV errV;rw [if_neg he];rfl
  have HG:=hid hg;clear hg;rw [HP.out];go_enter Tryz.func155,Tryz.ntmps155
  go_wp2_with (go_at_call 182;refine (nZ _ _ hs e HG.out he).mono ?_;rintro r w' ⟨rfl,rfl⟩)
  go_ret3;exact ⟨rfl,rfl⟩
 ·by_cases hm:most<0
  ·have HP : Hid (intV (intL s.data.toList most) = .tuple #[.int .i64 0, .int .i64 0, .iface 68 (.int .i64 2)]) := by
    show intV _=_
    rw [gY hg (.inl hm)];rfl
   have HG:=hid hg;clear hg;rw [HP.out];go_enter Tryz.func155,Tryz.ntmps155
   go_wp2_with (go_at_call 182;refine (dP _ _ hs n k HG.out).mono ?_;rintro r w' ⟨rfl,rfl⟩)
   go_ret3;exact ⟨rfl,rfl⟩
  ·have hm':0≤most:=by omega
   by_cases hr:most<(n:Int)
   ·have HP : Hid (intV (intL s.data.toList most) = .tuple #[.int .i64 0, .int .i64 0, .iface 68 (.int .i64 2)]) := by
     show intV _=_
     rw [gY hg (.inr hr)];rfl
    have HG:=hid hg;clear hg hm;rw [HP.out];go_enter Tryz.func155,Tryz.ntmps155
    go_wp2_with (go_at_call 182;refine (dP _ _ hs n k HG.out).mono ?_;rintro r w' ⟨rfl,rfl⟩)
    go_ret3;exact ⟨rfl,rfl⟩
   ·have HP : Hid (intV (intL s.data.toList most) = .tuple #[.int .i64 n, .int .i64 k, .nilIface]) := by
     show intV _=_
     rw [fQ hg (by omega)];rfl
    have HG:=hid hg;have hr':(n:Int)≤most:=by omega
    clear hg hm hr;rw [HP.out];go_enter Tryz.func155,Tryz.ntmps155
    go_wp2_with (go_at_call 182;refine (dP _ _ hs n k HG.out).mono ?_;rintro r w' ⟨rfl,rfl⟩)
    go_ret3;exact ⟨rfl,rfl⟩
end
section
open Go.RowKit
def NonB (b:Nat) (w w':World):Prop:=∀ k,k<w.heap.size→k≠b→(∀ cs fz,w.heap[k]? ≠ some (.cells cs 5 fz))→w'.heap[k]? = w.heap[k]?
theorem NonB.of {b:Nat} {w w':World} (h:Below w.heap.size w w'):NonB b w w':=fun k hk _ _=>h.block k hk
theorem NonB.trans {b:Nat} {w w1 w2:World} (h:NonB b w w1) (k:NonB b w1 w2) (hs:w.heap.size≤w1.heap.size):NonB b w w2:=fun i hi hb hu=>by
 have e:=h i hi hb hu;exact (k i (by omega) hb (fun cs fz=>by rw [e];exact hu cs fz)).trans e
theorem NonB.row {b:Nat} {w w':World} {base size n:Nat} {e:TypeId} {v:Value} {xs:List Value} (h:NonB b w w') (ho:w.ownsRow base e size v n xs) (he:e≠5) (hb:v.ownBlock≠some b):w'.ownsRow base e size v n xs:=by
 have hlt:=World.ownsRow.lt ho;refine ⟨ho.1,?_⟩;rcases ho.2 with h1 | ⟨g,cap,cur,hv,hbg,hh,r⟩
 ·exact .inl h1
 ·subst hv;refine .inr ⟨g,cap,cur,rfl,hbg,?_,r⟩;rw [h g (hlt g rfl).2 (fun hc=>hb (by rw [hc];rfl)) (fun cs fz hc=>by rw [hh] at hc;injection hc with hc;injection hc with _ ht;exact he ht)];exact hh
theorem zm (B b:Nat) (l:List UInt8) (w:World) (h:b8 w B b l) :
 Calls Tryz.prog 116 #[.pointer (some ⟨b,0,none⟩)] w fun e w'=>e=.returned (.tuple #[])∧Lib.BuilderAt 145 5 B b (.pointer (some ⟨b,0,none⟩)) (Lib.byteCells l) w'∧Below B w w'∧NonB b w w'∧w'.heap.size=w.heap.size:=by
 rcases h with h | h
 ·refine (ri b w h.cell0 h.shape h.frozen0).mono ?_;rintro e w' ⟨rfl,rfl⟩;exact ⟨rfl,h.used _,(Below.refl B w).setCell (p:=⟨b,0,none⟩) h.1 _,fun k _ hk _=>heap_setCell_other _ _ _ _ (fun e=>hk e),by simp⟩
 ·refine (nG b w h.cell0).mono ?_;rintro e w' ⟨rfl,rfl⟩;exact ⟨rfl,h,Below.refl B _,fun k _ _ _=>rfl,rfl⟩
theorem qD (B b:Nat) (l:List UInt8) (s:ByteArray) (w:World) (h:b8 w B b l) (hlen:l.length+s.size≤140737488355328) (hBw:B≤w.heap.size) :
 Calls Tryz.prog 88 #[.pointer (some ⟨b,0,none⟩),.string s] w fun e w'=>e=.returned (.tuple #[.int .i64 s.size,.nilIface])∧b8 w' B b (l++s.data.toList)∧Below B w w'∧NonB b w w':=by
 obtain ⟨i0,hi,hz0,hz1,hz2⟩:=info_parts gX;have hbl:(Lib.byteCells l).length=l.length:=by simp [Lib.byteCells]
 go_enter Tryz.func88,Tryz.ntmps88
 go_wp2_with fail
 refine (zm B b l _ h).mono ?_;rintro e w1 ⟨rfl,h1,hb1,hn1,hs1⟩;have HN1:=hid hn1;have HS1:=hid hs1;obtain ⟨hB,v,hbk,hown,hne⟩:=h1;have c0:w1.cell? ⟨b,0,none⟩=some (.pointer (some ⟨b,0,none⟩)):=by rw [Lib.cell_of_heap hbk];rfl
 have c1:w1.cell? ⟨b,1,none⟩=some v:=by rw [Lib.cell_of_heap hbk];rfl
 clear hn1 hs1;go_wp2_with (at_builtin;refine Lib.wpList_append_own_string _ rfl _ _ 142 9 rfl B 5 i0 Tryz.underlying142 Tryz.underlying9 hi hz0 hz1 hz2 _ _ _ rfl hown s rfl ?c3 ?c4 ?c5 ?_)
 case c3=>rw [hbl];unfold maxLen;omega
 case c4=>rw [hbl];omega
 case c5=>have:=hb1.size;omega
 intro v' w2 hown' hgrow _;have hlt:b<w1.heap.size:=by
  rcases Nat.lt_or_ge b w1.heap.size with h' | h'
  ·exact h'
  ·simp [Array.getElem?_eq_none h'] at hbk
 have hb2:w2.heap[b]? = some (.cells #[.pointer (some ⟨b,0,none⟩),v] 145 (0,0)):=by
  rw [hgrow.block b hlt (fun e=>hne e.symm)];exact hbk
 have d0:w2.cell? ⟨b,0,none⟩=some (.pointer (some ⟨b,0,none⟩)):=by rw [Lib.cell_of_heap hb2];rfl
 have d1:w2.cell? ⟨b,1,none⟩=some v:=by rw [Lib.cell_of_heap hb2];rfl
 have f1:w2.frozen? ⟨b,1,none⟩=false:=Lib.frozen_of_heap hb2 1;obtain ⟨ao,n',cap,rfl⟩:∃ ao n' cap,v'=.slice ao n' cap:=by
  rcases hown'.2 with ⟨hv,_⟩ | ⟨g,cap,cur,hv,_⟩
  ·exact ⟨_,_,_,hv⟩
  ·exact ⟨_,_,_,hv⟩
 have HO:Hid (w2.ownsRow B 5 1 (.slice ao n' cap) (Lib.byteCells (l++s.data.toList)).length (Lib.byteCells (l++s.data.toList))):=by
  have h:w2.ownsRow B 5 1 (.slice ao n' cap) (Lib.byteCells (l++s.data.toList)).length (Lib.byteCells (l++s.data.toList)):=by
   have e:Lib.byteCells (l++s.data.toList)=Lib.byteCells l++Lib.strCells s:=by simp [Lib.byteCells,Lib.strCells]
   rw [e,List.length_append,Lib.strCells_length,hbl];exact hown'
  exact h
 have HNB:Hid (NonB b w1 w2):=hid (show NonB b w1 w2 from fun k hk hkb hu=>hgrow.block k hk (fun e=>by
  rcases hown.2 with ⟨hv,_⟩ | ⟨g,cap',cur,hv,_,hh,_⟩
  ·rw [hv] at e;cases e
  ·rw [hv] at e;have:k=g:=by simpa [Value.ownBlock] using e
   subst this;exact hu _ _ hh))
 have HSZ:Hid (w1.heap.size≤w2.heap.size):=hid hgrow.size;clear hown';go_wp2;go_ret2;refine ⟨rfl,.inr ?_,?_,?_⟩
 ·exact Lib.BuilderAt.put (T:=145) (e:=5) hB hb2 HO.out (by decide)
 ·exact (hb1.grown hgrow (by have:=hb1.size;omega) (fun k hk=>(hown.lt k hk).1)).setCell (p:=⟨b,1,none⟩) hB _
 ·refine ((HN1.out.trans HNB.out (by rw [HS1.out];exact Nat.le_refl _)).trans (fun k _ hk _=>heap_setCell_other _ _ _ _ (fun e=>hk e)) ?_);rw [←HS1.out];exact HSZ.out
end
section
open Go.RowKit
theorem zF {l:List ByteArray} {k:Nat} {s:ByteArray} (h:l[k]? = some s) (hs:s∈l.take k):dupG (l.take k) (l.drop k) k=some k:=by
 obtain ⟨hk,e⟩:=List.getElem?_eq_some_iff.1 h;rw [List.drop_eq_getElem_cons hk,e,dupG,if_pos hs]
theorem zG {l:List ByteArray} {k:Nat} {s:ByteArray} (h:l[k]? = some s) (hs:s ∉ l.take k):dupG (l.take k) (l.drop k) k=dupG (l.take (k+1)) (l.drop (k+1)) (k+1):=by
 obtain ⟨hk,e⟩:=List.getElem?_eq_some_iff.1 h;rw [List.drop_eq_getElem_cons hk,e,dupG,if_neg hs]
 congr 1
 rw [←e,List.take_append_getElem hk]
def dupR (l:List ByteArray):Nat×Int:=match dupG [] l 0 with | some i=>(9,(i:Int)) | none=>(0,-1)
theorem Be (v:Value) (l:List ByteArray) (w:World) (hv:bg w v l) (hl:l.length≤1000000) (hs:∀ s∈l,s.size≤140737488351232) :
 Calls Tryz.prog 216 #[v] w (kD w (dupR l)):=by
 obtain ⟨a1,c1,rfl,_,f1⟩:=hv;have F1:=hid f1;have HS:=hid hs;obtain ⟨n,hn⟩:∃ n,n=l.length:=⟨_,rfl⟩;rw [←hn] at hl ⊢;have HN:=hid hn;clear f1 hs hn;have hmm:=@run_makeMap Tryz.prog;go_enter Tryz.func216,Tryz.ntmps216
 go_wp2
 go_loopw [9] (fun i wr=>∃ k:Nat,k≤n∧i=.int .i64 k∧dupG [] l 0=dupG (l.take k) (l.drop k) k∧jG wr w.heap.size k (l.take k)∧Below w.heap.size w wr) (fun i _=>n-(intOf i).toNat)
 case atStart=>exact ⟨0,Nat.zero_le _,rfl,rfl,DB _,(Below.refl _ _).alloc (Nat.le_refl _) _⟩
 case round =>
  obtain ⟨k,hk,rfl,hd,hmap,hbel⟩:=hrel;have HD:=hid hd;have HM:=hid hmap;have HB:=hid hbel;clear hd hmap hbel;by_cases hlt:k<n
  ·obtain ⟨s, hs⟩ : ∃ s, l[k]? = some s := ⟨l[k]'(by have := HN.out; omega), List.getElem?_eq_getElem _⟩;obtain ⟨b1,o1,rfl,hb1,p0⟩:=F1.out k s hs;have q0:=(HB.out.cell (p:=⟨b1,o1+k,none⟩) hb1).trans p0;have HSZ:Hid (s.size≤140737488351232):=hid (HS.out s (List.mem_of_getElem? hs));have hsz:s.size≤maxLen:=by have:=HSZ.out;unfold maxLen;omega
   by_cases hin:s∈l.take k
   ·have HR:Hid (dupR l=(9,(k:Int))):=hid (show dupR l=_ by unfold dupR;rw [HD.out,zF hs hin]);clear p0 hs;go_wp2_with (at_lookup;refine wZ rfl _ _ rfl w.heap.size k (l.take k) rfl HM.out s rfl hsz true (by simpa using hin) ?_)
    go_ret;rw [HR.out];exact ⟨_,rfl,atIs.new _ 9 _ (by decide),HB.out.alloc HB.out.size _⟩
   ·have HD2:=hid (HD.out.trans (zG hs hin));have HTK:Hid (l.take k++[s]=l.take (k+1)):=hid (show _=_ by obtain ⟨hk2,e⟩:=List.getElem?_eq_some_iff.1 hs;rw [←e,List.take_append_getElem hk2]);clear p0 hs;go_wp2_with (first
     | (at_lookup;refine wZ rfl _ _ rfl w.heap.size k (l.take k) rfl HM.out s rfl hsz false (by simpa using hin) ?_)
     | (at_mapUpdate;refine Hn rfl _ _ _ rfl w.heap.size k (l.take k) rfl HM.out (by unfold maxLen;omega) s rfl rfl hsz ?_;intro w1 hm1 hg1))
    have HB1:Hid (Below w.heap.size w w1):=hid (HB.out.grown hg1 HB.out.size (fun g hg=>by cases hg;exact Nat.le_refl _));rw [HTK.out] at hm1;have HM1:=hid hm1;clear hm1 hg1;go_roundw
    case rel=>exact ⟨k+1,by omega,by go_num,HD2.out,HM1.out,HB1.out⟩
    case measure=>simp [intOf];omega
  ·have HR:Hid (dupR l=(0,-1)):=hid (show dupR l=_ by unfold dupR;rw [HD.out,List.drop_eq_nil_of_le (by have:=HN.out;omega)];rfl);go_wp2;go_ret;rw [HR.out];exact ⟨_,rfl,.inl ⟨rfl,rfl⟩,HB.out⟩
theorem Dl {K told k:Nat} {l:List Int} {n:Int} (h:l[k]? = some n) (hn:n<0∨(K:Int)≤n):ordG K told (l.drop k) k=(2,(k:Int)):=by
 obtain ⟨hk,e⟩:=List.getElem?_eq_some_iff.1 h;rw [List.drop_eq_getElem_cons hk,e,ordG,if_pos hn]
theorem Dh {K told k:Nat} {l:List Int} {n:Int} (h:l[k]? = some n) (hn:¬ (n<0∨(K:Int)≤n)) (ht:(told:Int)<n):ordG K told (l.drop k) k=(13,(k:Int)):=by
 obtain ⟨hk,e⟩:=List.getElem?_eq_some_iff.1 h;rw [List.drop_eq_getElem_cons hk,e,ordG,if_neg hn,if_pos ht]
theorem Dk {K told k:Nat} {l:List Int} {n:Int} (h:l[k]? = some n) (hn:¬ (n<0∨(K:Int)≤n)) (ht:n<(told:Int)):ordG K told (l.drop k) k=ordG K told (l.drop (k+1)) (k+1):=by
 obtain ⟨hk,e⟩:=List.getElem?_eq_some_iff.1 h;rw [List.drop_eq_getElem_cons hk,e,ordG,if_neg hn,if_neg (by omega),if_neg (by omega)]
theorem Dj {K told k:Nat} {l:List Int} {n:Int} (h:l[k]? = some n) (hn:¬ (n<0∨(K:Int)≤n)) (ht:n=(told:Int)):ordG K told (l.drop k) k=ordG K (told+1) (l.drop (k+1)) (k+1):=by
 obtain ⟨hk,e⟩:=List.getElem?_eq_some_iff.1 h;rw [List.drop_eq_getElem_cons hk,e,ordG,if_neg hn,if_neg (by omega),if_pos ht]
theorem Bc (v:Value) (l:List Int) (K:Nat) (w:World) (hv:g9 w v l) (hl:l.length≤1000000) (hK:K≤1000000) :
 Calls Tryz.prog 217 #[v,.int .i64 (K:Int)] w (iF w (ordG K 0 l 0)):=by
 obtain ⟨a1,c1,rfl,_,f1⟩:=hv;have F1:=hid f1;obtain ⟨n,hn⟩:∃ n,n=l.length:=⟨_,rfl⟩;rw [←hn] at hl ⊢;have HN:=hid hn;clear f1 hn;go_enter Tryz.func217,Tryz.ntmps217
 go_wp2
 go_loopw [5,10] (fun t i wr=>∃ k told:Nat,k≤n∧told≤k∧i=.int .i64 k∧t=.int .i64 told∧ordG K 0 l 0=ordG K told (l.drop k) k∧Below w.heap.size w wr) (fun _ i _=>n-(intOf i).toNat)
 case atStart=>exact ⟨0,0,Nat.zero_le _,Nat.le_refl _,rfl,rfl,rfl,Below.refl _ _⟩
 case round =>
  obtain ⟨k,told,hk,htk,rfl,rfl,hd,hbel⟩:=hrel;have HD:=hid hd;have HB:=hid hbel;clear hd hbel;by_cases hlt:k<n
  ·obtain ⟨z, hz⟩ : ∃ z, l[k]? = some z := ⟨l[k]'(by have := HN.out; omega), List.getElem?_eq_getElem _⟩;obtain ⟨b1,o1,rfl,hb1,p0⟩:=F1.out k z hz;have q0:=(HB.out.cell (p:=⟨b1,o1+k,none⟩) hb1).trans p0;by_cases hr:z<0∨(K:Int)≤z
   ·have HR:=hid (HD.out.trans (Dl hz hr));clear p0 hz;by_cases h0:z<0
    ·go_wp2;go_ret;rw [HR.out];exact ⟨_,rfl,.inl (atIs.new _ 2 _ (by decide)),HB.out.alloc HB.out.size _⟩
    ·have h1:(K:Int)≤z:=by omega
     go_wp2;go_ret;rw [HR.out];exact ⟨_,rfl,.inl (atIs.new _ 2 _ (by decide)),HB.out.alloc HB.out.size _⟩
   ·have h0:¬ z<0:=by omega
    have h1:¬ (K:Int)≤z:=by omega
    by_cases hf:(told:Int)<z
    ·have HR:=hid (HD.out.trans (Dh hz hr hf));clear p0 hz hr;go_wp2;go_ret;rw [HR.out];exact ⟨_,rfl,.inl (atIs.new _ 13 _ (by decide)),HB.out.alloc HB.out.size _⟩
    ·by_cases he:z=(told:Int)
     ·have HD2:=hid (HD.out.trans (Dj hz hr he));clear p0 hz hr;subst he;go_wp2;go_roundw
      case rel=>exact ⟨k+1,told+1,by omega,by omega,by go_num,by go_num,HD2.out,HB.out⟩
      case measure=>simp [intOf];omega
     ·have HD2:=hid (HD.out.trans (Dk hz hr (by omega)));have hb:(z == (told:Int))=false:=by simpa using he
      clear p0 hz hr;go_wp2;go_roundw
      case rel=>exact ⟨k+1,told,by omega,by omega,by go_num,rfl,HD2.out,HB.out⟩
      case measure=>simp [intOf];omega
  ·have HE:Hid (ordG K 0 l 0=if told<K then (8,-1) else (0,-1)):=hid (show _=_ by rw [HD.out,List.drop_eq_nil_of_le (by have:=HN.out;omega)];rfl);by_cases ht:told<K
   ·have HR:Hid (ordG K 0 l 0=(8,-1)):=hid (show _=_ by rw [HE.out,if_pos ht]);go_wp2;go_ret;rw [HR.out];exact ⟨_,rfl,.inr ⟨by decide,rfl,rfl⟩,HB.out⟩
   ·have HR:Hid (ordG K 0 l 0=(0,-1)):=hid (show _=_ by rw [HE.out,if_neg ht]);go_wp2;go_ret;rw [HR.out];exact ⟨_,rfl,.inl (.inl ⟨rfl,rfl⟩),HB.out⟩
end
section
open Go.RowKit
theorem uZ (a b:List UInt8) (s:ByteArray) (h:s.data.toList=b):(⟨a.toArray⟩:ByteArray)++s=⟨(a++b).toArray⟩:=by
 apply kN;rw [gM,h]
theorem lO (n:Nat) (k:Int) (P:ByteArray) (w:World) (h:n≤1000000) (hk:(n:Int)=k) (hP:⟨(putL n).toArray⟩=P) :
 Calls Tryz.prog 115 #[.int .u64 k] w fun e w'=>e=.returned (.string P)∧Below w.heap.size w w':=by
 subst hk hP;exact lP n w (by omega)
theorem C4 (t:Tok) (w:World) (hf:fine t) (hs:t.own.size≤20000) :
 Calls Tryz.prog 177 #[tokV t] w fun e w'=>e=.returned (.string ⟨(putT t).toArray⟩)∧Below w.heap.size w w':=by
 obtain ⟨s,b,z⟩:=t;rcases hf with ⟨h1,h2,h3⟩ | ⟨h1,h2,h3,h4,h5⟩
 ·simp only at h1 h2 h3 hs
  subst h2 h3;have e1:=rY h1;have HP:Hid ((⟨(putL (2 * s.size)).toArray⟩:ByteArray)++s=⟨(putT ⟨s,0,0⟩).toArray⟩):=by
   have h:(⟨(putL (2 * s.size)).toArray⟩:ByteArray)++s=⟨(putT ⟨s,0,0⟩).toArray⟩:=by
    rw [lL h1];exact uZ _ _ _ rfl
   exact h
  have hl:=aL (n:=2 * s.size) (by omega);have hl2:(⟨(putL (2 * s.size)).toArray⟩:ByteArray).size≤10:=by rw [cJ];exact hl
  obtain ⟨P,hP⟩:∃ P:ByteArray,⟨(putL (2 * s.size)).toArray⟩=P:=⟨_,rfl⟩;rw [hP] at HP hl2;have HPP:=hid hP;have k1:IntKind.u64.wrap (s.size:Int)=s.size:=IntWalk.u64_in _ (by omega);have k2:IntKind.u64.wrap (2 * (s.size:Int))=2 * s.size:=IntWalk.u64_in _ (by omega);have ksz:¬ (9223372036854775807<P.size+s.size):=by omega
  have c0:(w.alloc (.cells #[.string s,.int .i64 0,.int .i64 0] 237)).cell? ⟨w.heap.size,0,none⟩=some (.string s):=by simp
  have HQ:Hid (2 * s.size≤1000000∧((2 * s.size:Nat):Int)=2 * (s.size:Int)):=⟨by omega,by omega⟩;clear h1 hl hP;unfold tokV;go_enter Tryz.func177,Tryz.ntmps177
  go_wp2;go_region_held3 (fun w'=>w'.cell? ⟨w.heap.size,0,none⟩=some (.string s)) (first | exact c0 | exact c1) (first | (go_at_call 115;(with_reducible refine (lO (2 * s.size) _ P _ HQ.out.1 HQ.out.2 HPP.out).mono ?_);rintro r w1 ⟨rfl,hb1⟩;have c1:w1.cell? ⟨w.heap.size,0,none⟩=some (.string s):=(hb1.cell (by simp)).trans c0;have HB1:Hid (Below w.heap.size w w1):=((((Below.refl _ _).alloc (Nat.le_refl _) _).drew).trans (hb1.mono (by simp)));clear hb1))
  go_wp2;go_ret;exact ⟨by rw [HP.out];rfl,HB1.out⟩
 ·simp only at h1 h2 h3 h4 h5
  obtain ⟨Z,rfl⟩:=Int.eq_ofNat_of_zero_le (show 0≤z by omega);obtain ⟨B,rfl⟩:=Int.eq_ofNat_of_zero_le (show 0≤b by omega);have e1:=ru h1;have HP:Hid ((⟨(putL (2 * (Z-4)+1)).toArray⟩:ByteArray)++⟨(putL (B-1)).toArray⟩=⟨(putT ⟨s,B,Z⟩).toArray⟩):=by
   have h:(⟨(putL (2 * (Z-4)+1)).toArray⟩:ByteArray)++⟨(putL (B-1)).toArray⟩=⟨(putT ⟨s,B,Z⟩).toArray⟩:=by
    rw [lM h1];exact uZ _ _ _ rfl
   exact h
  have hl:=aL (n:=2 * (Z-4)+1) (by omega);have hl':=aL (n:=B-1) (by omega);have hl2:(⟨(putL (2 * (Z-4)+1)).toArray⟩:ByteArray).size≤10:=by rw [cJ];exact hl
  have hl3:(⟨(putL (B-1)).toArray⟩:ByteArray).size≤10:=by rw [cJ];exact hl'
  obtain ⟨P,hP⟩:∃ P:ByteArray,⟨(putL (2 * (Z-4)+1)).toArray⟩=P:=⟨_,rfl⟩;obtain ⟨R,hR⟩:∃ R:ByteArray,⟨(putL (B-1)).toArray⟩=R:=⟨_,rfl⟩;rw [hP,hR] at HP;rw [hP] at hl2;rw [hR] at hl3;have HPP:=hid hP;have HRR:=hid hR;have k1:IntKind.i64.wrap ((Z:Int)-4)=(Z:Int)-4:=IntWalk.i64_in _ (by omega);have k2:IntKind.u64.wrap ((Z:Int)-4)=(Z:Int)-4:=IntWalk.u64_in _ (by omega);have k3:IntKind.u64.wrap (2 * ((Z:Int)-4))=2 * ((Z:Int)-4):=IntWalk.u64_in _ (by omega);have k4:IntKind.u64.wrap (2 * ((Z:Int)-4)+1)=2 * ((Z:Int)-4)+1:=IntWalk.u64_in _ (by omega);have k5:IntKind.i64.wrap ((B:Int)-1)=(B:Int)-1:=IntWalk.i64_in _ (by omega);have k6:IntKind.u64.wrap ((B:Int)-1)=(B:Int)-1:=IntWalk.u64_in _ (by omega);have ksz:¬ (9223372036854775807<P.size+R.size):=by omega
  have c0:(w.alloc (.cells #[.string s,.int .i64 B,.int .i64 Z] 237)).cell? ⟨w.heap.size,1,none⟩=some (.int .i64 B)∧(w.alloc (.cells #[.string s,.int .i64 B,.int .i64 Z] 237)).cell? ⟨w.heap.size,2,none⟩=some (.int .i64 Z):=by simp
  have HQ:Hid (2 * (Z-4)+1≤1000000∧((2 * (Z-4)+1:Nat):Int)=2 * ((Z:Int)-4)+1):=⟨by omega,by omega⟩;have HQ2:Hid (B-1≤1000000∧((B-1:Nat):Int)=(B:Int)-1):=⟨by omega,by omega⟩;clear h1 hl hl' hP hR;unfold tokV;go_enter Tryz.func177,Tryz.ntmps177
  go_wp2;go_region_held3 (fun w'=>w'.cell? ⟨w.heap.size,1,none⟩=some (.int .i64 B)∧w'.cell? ⟨w.heap.size,2,none⟩=some (.int .i64 Z)) (first | exact c0 | exact c1 | exact c2) (first | (go_at_call 115;(with_reducible refine (lO (2 * (Z-4)+1) _ P _ HQ.out.1 HQ.out.2 HPP.out).mono ?_);rintro r w1 ⟨rfl,hb1⟩;have c1:w1.cell? ⟨w.heap.size,1,none⟩=some (.int .i64 B)∧w1.cell? ⟨w.heap.size,2,none⟩=some (.int .i64 Z):=⟨(hb1.cell (by simp)).trans c0.1,(hb1.cell (by simp)).trans c0.2⟩;have HB1:Hid (Below w.heap.size w w1):=((((Below.refl _ _).alloc (Nat.le_refl _) _).drew).trans (hb1.mono (by simp)));have HZ1:Hid (w.heap.size<w1.heap.size):=(Nat.lt_of_lt_of_le (by simp) hb1.size);clear hb1) | (go_at_call 115;(with_reducible refine (lO (B-1) _ R _ HQ2.out.1 HQ2.out.2 HRR.out).mono ?_);rintro r w2 ⟨rfl,hb2⟩;have c2:w2.cell? ⟨w.heap.size,1,none⟩=some (.int .i64 B)∧w2.cell? ⟨w.heap.size,2,none⟩=some (.int .i64 Z):=⟨(hb2.cell HZ1.out).trans c1.1,(hb2.cell HZ1.out).trans c1.2⟩;have HB2:Hid (Below w.heap.size w w2):=HB1.out.trans (hb2.mono HB1.out.size);clear hb2))
  go_wp2;go_ret;exact ⟨by rw [HP.out];rfl,HB2.out⟩
end
section
open Go.RowKit
def cAt (l:List Wr) (x:Int×Int) (k:Nat):Int:=(l[k]?.map fun y=>cI x (wid y)).getD 0
theorem iP {l:List Wr} {x:Int×Int} {k:Nat} {y:Wr} (h:l[k]? = some y):cAt l x k=cI x (wid y):=by unfold cAt;rw [h];rfl
theorem B0 {w w':World} {a b c d e:Addr} {x y z u v:Value} (hb:Below w.heap.size w w') (h:w.cell? a=some x∧w.cell? b=some y∧w.cell? c=some z∧w.cell? d=some u∧w.cell? e=some v) :
 w'.cell? a=some x∧w'.cell? b=some y∧w'.cell? c=some z∧w'.cell? d=some u∧w'.cell? e=some v :=
 ⟨(hb.cell (aK h.1)).trans h.1,(hb.cell (aK h.2.1)).trans h.2.1,(hb.cell (aK h.2.2.1)).trans h.2.2.1,(hb.cell (aK h.2.2.2.1)).trans h.2.2.2.1,(hb.cell (aK h.2.2.2.2)).trans h.2.2.2.2⟩
theorem DO (v:Value) (l:List Wr) (x1 x2:Int) (i:Nat) (B2 B3:Nat) (w:World) (hv:aD w v l) (hi:i<l.length) (h2:w.heap[B2]? = some (.cells #[v] 30 (0,0))) (h3:w.heap[B3]? = some (.cells #[.int .i64 x1,.int .i64 x2] 36 (0,0))) :
 Calls Tryz.prog 98 #[.int .i64 (i:Int),.pointer (some ⟨B3,0,none⟩),.pointer (some ⟨B2,0,none⟩)] w fun e w'=>e=.returned (.int .i64 (cAt l (x1,x2) i))∧Below w.heap.size w w':=by
 obtain ⟨a,c,rfl,hf⟩:=hv.form;obtain ⟨y,hy⟩:∃ y,l[i]? = some y:=⟨l[i],List.getElem?_eq_getElem _⟩;obtain ⟨b,off,rfl,hbl,c0,c1,_⟩:=hf i y hy;have HC:Hid (cI (x1,x2) (y.time,y.rep)=cAt l (x1,x2) i):=hid (iP hy).symm;obtain ⟨z,hz⟩:∃ z,z=cAt l (x1,x2) i:=⟨_,rfl⟩;rw [←hz] at HC ⊢;obtain ⟨n,hn⟩:∃ n,n=l.length:=⟨_,rfl⟩;rw [←hn] at hi h2;have p2:w.cell? ⟨B2,0,none⟩=some (.slice (some ⟨b,off,none⟩) n c):=cell_of_row _ _ 0 _ _ _ h2;have p3:w.cell? ⟨B3,0,none⟩=some (.int .i64 x1):=cell_of_row _ _ 0 _ _ _ h3;have p4:w.cell? ⟨B3,1,none⟩=some (.int .i64 x2):=cell_of_row _ _ 1 _ _ _ h3;have hii:(i:Int)<(n:Int):=by omega
 have k0:w.drew.cell? ⟨B2,0,none⟩=some (.slice (some ⟨b,off,none⟩) n c)∧w.drew.cell? ⟨B3,0,none⟩=some (.int .i64 x1)∧w.drew.cell? ⟨B3,1,none⟩=some (.int .i64 x2)∧w.drew.cell? ⟨b,off+i * 6,none⟩=some (.int .i64 y.time)∧w.drew.cell? ⟨b,off+i * 6+1,none⟩=some (.int .i64 y.rep):=⟨p2,p3,p4,c0,c1⟩;obtain ⟨T,R,_,_,_,_⟩:=y;simp only at c0 c1 k0 HC
 clear hv hf hz hn h2 h3 hy;go_enter Tryz.func98,Tryz.ntmps98
 go_wp2;go_region_held3 (fun w'=>w'.cell? ⟨B2,0,none⟩=some (.slice (some ⟨b,off,none⟩) n c)∧w'.cell? ⟨B3,0,none⟩=some (.int .i64 x1)∧w'.cell? ⟨B3,1,none⟩=some (.int .i64 x2)∧w'.cell? ⟨b,off+i * 6,none⟩=some (.int .i64 T)∧w'.cell? ⟨b,off+i * 6+1,none⟩=some (.int .i64 R)) (first | exact k0 | exact k1 | fail) (first
  | (go_at_call 18;((with_reducible refine (oc x1 x2 T R z w.drew HC.out).mono ?_);rintro r w1 ⟨rfl,hb1⟩;have HB1:=hid (bY hb1);have k1:=B0 hb1 k0;clear hb1))
  | fail)
 all_goals
  go_wp2;go_ret;exact ⟨rfl,HB1.out⟩
theorem zW (v:Value) (l:List Wr) (x1 x2:Int) (n:Nat) (B2 B3:Nat) (w:World) (hv:aD w v l) (hn:n=l.length) (hl:n≤1000000) (h2:w.heap[B2]? = some (.cells #[v] 30 (0,0))) (h3:w.heap[B3]? = some (.cells #[.int .i64 x1,.int .i64 x2] 36 (0,0)))
 (hm:∀ i j,i≤j→j<n→0<cAt l (x1,x2) j→0<cAt l (x1,x2) i) :
 Calls Tryz.prog 97 #[.int .i64 (n:Int),.func (.func 98) #[] #[.pointer (some ⟨B3,0,none⟩),.pointer (some ⟨B2,0,none⟩)]] w fun e w' =>
  ∃ p:Nat,p≤n∧(∀ k,k<p→0<cAt l (x1,x2) k)∧(∀ k,p≤k→k<n→cAt l (x1,x2) k≤0)∧e=.returned (.tuple #[.int .i64 (p:Int),.bool (decide (p<n∧cAt l (x1,x2) p=0))])∧Below w.heap.size w w':=by
 obtain ⟨G,hG⟩:∃ G,G=cAt l (x1,x2):=⟨_,rfl⟩;have HP:Hid (∀ i w',i<n→Below w.heap.size w w'→Calls Tryz.prog 98 #[.int .i64 (i:Int),.pointer (some ⟨B3,0,none⟩),.pointer (some ⟨B2,0,none⟩)] w' fun e w''=>e=.returned (.int .i64 (G i))∧Below w'.heap.size w' w''):=hid (fun i w' hi hb=>by
  rw [hG];exact DO v l x1 x2 i B2 B3 w' (hv.below hb) (by omega) ((hb.block B2 (Array.getElem?_eq_some_iff.1 h2).1).trans h2) ((hb.block B3 (Array.getElem?_eq_some_iff.1 h3).1).trans h3))
 rw [←hG] at hm ⊢;have HM:=hid hm;clear hG hm hv hn h2 h3;go_enter Tryz.func97,Tryz.ntmps97
 go_wp2
 go_loopw [4,6] (fun i j wr=>∃ a b:Nat,a≤b∧b≤n∧i=.int .i64 a∧j=.int .i64 b∧(∀ k,k<a→0<G k)∧(∀ k,b≤k→k<n→G k≤0)∧Below w.heap.size w wr) (fun i j _=>(intOf j).toNat-(intOf i).toNat)
 case atStart=>exact ⟨0,n,by omega,by omega,rfl,rfl,fun k hk=>(by omega),fun k h1 h2=>(by omega),Below.refl _ _⟩
 case round =>
  obtain ⟨a,b,hab,hbn,rfl,rfl,hlo,hhi,hb⟩:=hrel;have HLO:=hid hlo;have HHI:=hid hhi;have HB:=hid hb;clear hlo hhi hb;by_cases hlt:a<b
  ·have b1:decide ((a:Int)<(b:Int))=true:=by simpa using hlt
   obtain ⟨h,hh⟩:∃ h:Nat,h=(a+b) / 2:=⟨_,rfl⟩;have hh2:Hid (a≤h∧h<b):=hid (by omega);have HH:Hid (((a:Int)+(b:Int)) / 2=(h:Int)):=hid (by omega);have hhn:h≤1000000:=by omega
   clear hh;go_wp2_with fail
   rw [HH.out];refine (HP.out h wr (by have:=hh2.out;omega) HB.out).mono ?_;rintro r w1 ⟨rfl,hb1⟩;have HB1:Hid (Below w.heap.size w w1):=hid (HB.out.trans (hb1.mono HB.out.size));clear hb1;by_cases hp:0<G h
   ·have b2:decide (0<G h)=true:=by simpa using hp
    have HPP:=hid hp;obtain ⟨z,hz⟩:∃ z,z=G h:=⟨_,rfl⟩;rw [←hz] at b2 ⊢;clear hp hz;go_wp2;go_roundw
    ·exact ⟨h+1,b,by have:=hh2.out;omega,by omega,by simp,rfl,fun k hk=>HM.out k h (by omega) (by have:=hh2.out;omega) HPP.out,HHI.out,HB1.out⟩
    ·have:=hh2.out;simp [intOf];omega
   ·have b2:decide (0<G h)=false:=by simpa using hp
    have HPP:=hid hp;obtain ⟨z,hz⟩:∃ z,z=G h:=⟨_,rfl⟩;rw [←hz] at b2 ⊢;clear hp hz;go_wp2;go_roundw
    ·refine ⟨a,h,by have:=hh2.out;omega,by have:=hh2.out;omega,rfl,rfl,HLO.out,fun k h1 h2=>?_,HB1.out⟩;exact Int.not_lt.1 (fun e=>by have:=HM.out h k h1 h2 e;have:=HPP.out;omega)
    ·have:=hh2.out;simp [intOf];omega
  ·have b1:decide ((a:Int)<(b:Int))=false:=by simp;omega
   obtain rfl:a=b:=by omega
   by_cases hlt2:a<n
   ·have b2:decide ((a:Int)<(n:Int))=true:=by simpa using hlt2
    have HL2:=hid hlt2;go_wp2_with fail
    refine (HP.out a wr HL2.out HB.out).mono ?_;rintro r w1 ⟨rfl,hb1⟩;have HB1:Hid (Below w.heap.size w w1):=hid (HB.out.trans (hb1.mono HB.out.size));clear hb1;obtain ⟨z,hz⟩:∃ z,z=G a:=⟨_,rfl⟩;rw [←hz];have HZ:=hid hz;clear hz;go_wp2;go_ret2;refine ⟨a,hbn,HLO.out,HHI.out,?_,HB1.out⟩;have e:decide (a<n∧G a=0)=(z == 0):=by rw [←HZ.out];simp [HL2.out];rfl
    rw [e]
    rfl
   ·have b2:decide ((a:Int)<(n:Int))=false:=by simp;omega
    have HL2:=hid hlt2;go_wp2;go_ret2;refine ⟨a,hbn,HLO.out,HHI.out,?_,HB.out⟩;have e:decide (a<n∧G a=0)=false:=by simp;intro h;exact absurd h HL2.out
    rw [e]
    rfl
theorem yM {l:List Wr} (h:l.Pairwise late) (x:Int×Int):∀ i j,i≤j→j<l.length→0<cAt l x j→0<cAt l x i:=by
 intro i j hij hj h0;obtain ⟨a,ha⟩:∃ a,l[i]? = some a:=⟨l[i],List.getElem?_eq_getElem _⟩;obtain ⟨b,hb⟩:∃ b,l[j]? = some b:=⟨l[j],List.getElem?_eq_getElem _⟩;rw [iP hb] at h0;rw [iP ha];by_cases e:i=j
 ·subst e;rw [ha] at hb;rw [Option.some.inj hb];exact h0
 have hl:late a b:=by
  have:=List.pairwise_iff_getElem.1 h i j (by omega) hj (by omega)
  rwa [(List.getElem?_eq_some_iff.1 ha).2,(List.getElem?_eq_some_iff.1 hb).2] at this
 obtain ⟨x1,x2⟩:=x;rw [fp] at hl;unfold wid at h0 ⊢;rw [fI] at h0 ⊢;split at h0
 ·omega
 ·split at h0
  ·omega
  ·rename_i h1 h2;rw [if_neg (by omega),if_neg (by omega)];omega
theorem nD {l:List Wr} {x y:Wr} {k:Nat} (h:l[k]? = some y):0<cAt l (wid x) k↔late y x:=by
 rw [iP h,fp];unfold wid;rw [fI];split
 ·omega
 ·split <;> omega
theorem qO {l:List Wr} {x y:Wr} {k:Nat} (h:l[k]? = some y):cAt l (wid x) k=0↔wid y=wid x:=by
 rw [iP h];unfold wid;rw [fI];split
 ·simp;omega
 ·split
  ·simp;omega
  ·simp;omega
theorem BZ (v:Value) (l:List Wr) (x1 x2:Int) (w:World) (hv:aD w v l) (hl:l.length≤1000000) (hs:l.Pairwise late) :
 Calls Tryz.prog 68 #[v,.agg #[.int .i64 x1,.int .i64 x2]] w fun e w' =>
  ∃ p:Nat,p≤l.length∧(∀ k,k<p→0<cAt l (x1,x2) k)∧(∀ k,p≤k→k<l.length→cAt l (x1,x2) k≤0)∧e=.returned (.tuple #[.int .i64 (p:Int),.bool (decide (p<l.length∧cAt l (x1,x2) p=0))])∧Below w.heap.size w w':=by
 have HM:=hid (yM hs (x1,x2));obtain ⟨a,c,rfl,_⟩:=hv.form;have HV:=hid hv;obtain ⟨n,hn⟩:∃ n,n=l.length:=⟨_,rfl⟩;rw [←hn] at hl HM HV ⊢;have HN:=hid hn;have HL:=hid hl;clear hv hn hs hl;go_enter Tryz.func68,Tryz.ntmps68
 go_wp2_with fail
 refine (zW _ l x1 x2 n w.heap.size (w.heap.size+1) _ ((HV.out.alloc _).alloc _) HN.out HL.out ?q1 ?q2 HM.out).mono ?_
 case q1=>rw [Below.heap_alloc _ _ _ (by simp)];exact heap_alloc_new _ _
 case q2=>have:=heap_alloc_new (w.alloc (.cells #[.slice a n c] 30)) (.cells #[.int .i64 x1,.int .i64 x2] 36);rwa [World.size_alloc] at this
 rintro r w1 ⟨p,hp,h1,h2,rfl,hb⟩;have HX:Hid (p≤n∧(∀ k,k<p→0<cAt l (x1,x2) k)∧(∀ k,p≤k→k<n→cAt l (x1,x2) k≤0)):=hid ⟨hp,h1,h2⟩;have HB:Hid (Below w.heap.size w w1):=hid ((((Below.refl _ _).alloc (Nat.le_refl _) _).alloc (by simp) _).trans (hb.mono (by simp;omega)));obtain ⟨d,hd⟩:∃ d,d=decide (p<n∧cAt l (x1,x2) p=0):=⟨_,rfl⟩;rw [←hd];have HD:=hid hd;clear hp h1 h2 hb hd;go_wp2;go_ret2;exact ⟨p,HX.out.1,HX.out.2.1,HX.out.2.2,by rw [←HD.out];rfl,HB.out⟩
end
