import Derived.Test.YtjkbmfpomgcblaaGreatDoorKr13
namespace Go.Proofs.YtjkbmfpomgcblaaGreatDoor
open Go.RowKit
set_option maxRecDepth 100000 in
set_option maxHeartbeats 1000000 in
theorem wgetn_any (K:Int) (s:ByteArray) (w:World) (hs:s.size≤140737488351232) :
   Calls Tryz.prog 218 #[.int .i64 K,.string s] w fun e w'=>e=.returned (.tuple #[.int .i64 (getN K s.data.toList).1,.int .i64 (getN K s.data.toList).2.1,errV (getN K s.data.toList).2.2])∧w=w':=by
 have hs2:s.size≤maxLen:=by unfold maxLen;omega
 by_cases h3:K=3
 · subst h3
   have HR:Hid (getN 3 s.data.toList=(zagN (getL s.data.toList).1,(getL s.data.toList).2.1,(getL s.data.toList).2.2)):=Lib.hid (show _=_ by unfold getN;rw [if_pos rfl])
   have HZ:Hid ((getL s.data.toList).1≤18446744073709551615):=Lib.hid (by
     show _≤_
     rcases getL_cases s.data.toList with ⟨e,hg,he⟩ | ⟨n,k,hg,hn,_⟩
     · rw [hg];exact Nat.zero_le _
     · rw [hg];exact hn)
   go_enter Tryz.func218,Tryz.ntmps218
   go_wp2_with fail
   refine (get_any s _ hs2).mono ?_
   rintro r w' ⟨rfl,rfl⟩
   unfold numV
   go_wp2_with fail
   refine (zag_any _ _ (by omega) (by have:=HZ.out;omega)).mono ?_
   rintro r w' ⟨rfl,rfl⟩
   go_wp2
   go_ret3
   rw [HR.out]
   exact ⟨rfl,rfl⟩
 · have b3:(K == 3)=false:=by simpa using h3
   by_cases h4:K=4
   · subst h4
     have HR:Hid (getN 4 s.data.toList=(((intL s.data.toList 1000).1:Int),(intL s.data.toList 1000).2.1,(intL s.data.toList 1000).2.2)):=Lib.hid (show _=_ by unfold getN;rw [if_neg (by decide),if_pos rfl])
     go_enter Tryz.func218,Tryz.ntmps218
     go_wp2_with fail
     refine (int_any s 1000 _ hs2 (by decide) (by decide)).mono ?_
     rintro r w' ⟨rfl,rfl⟩
     unfold intV
     go_wp2
     go_ret3
     rw [HR.out]
     exact ⟨rfl,rfl⟩
   · have b4:(K == 4)=false:=by simpa using h4
     have HR:Hid (getN K s.data.toList=(0,0,0)):=Lib.hid (show _=_ by unfold getN;rw [if_neg h3,if_neg h4])
     go_enter Tryz.func218,Tryz.ntmps218
     go_wp2
     go_ret3
     rw [HR.out]
     exact ⟨rfl,rfl⟩
set_option maxRecDepth 100000 in
theorem wgetv_any (K:Int) (s:ByteArray) (w:World) (hs:s.size≤140737488351232) :
   Calls Tryz.prog 219 #[.int .i64 K,.string s] w fun e w'=>e=.returned (.tuple #[.string ⟨(getV K s.data.toList).1.toArray⟩,.int .i64 (getV K s.data.toList).2.1,errV (getV K s.data.toList).2.2])∧Below w.heap.size w w':=by
 cases hV:hasV K with
 | false =>
   have HR:Hid (getV K s.data.toList=([],0,0)):=Lib.hid (show _=_ by unfold getV;rw [hV,if_neg (by decide)])
   go_enter Tryz.func219,Tryz.ntmps219
   go_wp2_with (go_at_call 150;refine (hasv_any K false _ hV).mono ?_;rintro r w3 ⟨rfl,rfl⟩)
   go_ret3
   rw [HR.out]
   exact ⟨rfl,Below.refl _ _⟩
 | true =>
   have HR:Hid (getV K s.data.toList=getS s.data.toList):=Lib.hid (show _=_ by unfold getV;rw [hV,if_pos rfl])
   go_enter Tryz.func219,Tryz.ntmps219
   go_wp2_with (first
     | (go_at_call 150;refine (hasv_any K true _ hV).mono ?_;rintro r w3 ⟨rfl,rfl⟩)
     | (go_at_call 179;refine (sget_any s _ hs).mono ?_;rintro r w4 ⟨rfl,hb4⟩;have HB4:=Lib.hid hb4;clear hb4;unfold spanV))
   go_ret3
   rw [HR.out]
   exact ⟨rfl,HB4.out⟩
def fillE (T R K:Int) (key:ByteArray) (l:List UInt8):Nat :=
 if (getN K l).2.2≠0 then (getN K l).2.2 else if (getV K (l.drop (getN K l).2.1)).2.2≠0 then (getV K (l.drop (getN K l).2.1)).2.2 else wriE T R K key ⟨(getV K (l.drop (getN K l).2.1)).1.toArray⟩ (getN K l).1
def zeroW:Value:=.agg #[.int .i64 0,.int .i64 0,.int .i64 0,.string ⟨#[]⟩,.string ⟨#[]⟩,.int .i64 0]
def FillOut (ev:Nat→Value) (T R K:Int) (key:ByteArray) (l:List UInt8) (r:Value):Prop :=
 (fillE T R K key l≠0∧r=.tuple #[zeroW,.int .i64 0,ev (fillE T R K key l)]) ∨
 (fillE T R K key l=0∧r=.tuple #[.agg #[.int .i64 T,.int .i64 R,.int .i64 K,.string key,.string ⟨(getV K (l.drop (getN K l).2.1)).1.toArray⟩,.int .i64 (getN K l).1],.int .i64 (((getN K l).2.1 + (getV K (l.drop (getN K l).2.1)).2.1:Nat):Int),ev 0])
theorem fillE_n {T R K:Int} {key:ByteArray} {l:List UInt8} {n:Int} {k e:Nat} (h:getN K l=(n,k,e)) (he:e≠0):fillE T R K key l=e:=by unfold fillE;rw [h];exact if_pos he
theorem fillE_v {T R K:Int} {key:ByteArray} {l v:List UInt8} {n:Int} {k j e:Nat} (h:getN K l=(n,k,0)) (h2:getV K (l.drop k)=(v,j,e)) (he:e≠0):fillE T R K key l=e:=by
 unfold fillE;rw [h];simp only [ne_eq,not_true_eq_false,if_false];rw [h2];exact if_pos he
theorem fillE_w {T R K:Int} {key:ByteArray} {l v:List UInt8} {n:Int} {k j:Nat} (h:getN K l=(n,k,0)) (h2:getV K (l.drop k)=(v,j,0)):fillE T R K key l=wriE T R K key ⟨v.toArray⟩ n:=by
 unfold fillE;rw [h];simp only [ne_eq,not_true_eq_false,if_false];rw [h2];simp
theorem fillOut_bad {ev:Nat→Value} {T R K:Int} {key:ByteArray} {l:List UInt8} {e:Nat} (h:fillE T R K key l=e) (he:e≠0):FillOut ev T R K key l (.tuple #[zeroW,.int .i64 0,ev e]):=by
 refine .inl ⟨by rw [h];exact he,by rw [h]⟩
theorem fillOut_ok {ev:Nat→Value} {T R K:Int} {key:ByteArray} {l v:List UInt8} {n:Int} {k j:Nat} (h:getN K l=(n,k,0)) (h2:getV K (l.drop k)=(v,j,0)) (h3:wriE T R K key ⟨v.toArray⟩ n=0) :
   FillOut ev T R K key l (.tuple #[.agg #[.int .i64 T,.int .i64 R,.int .i64 K,.string key,.string ⟨v.toArray⟩,.int .i64 n],.int .i64 ((k + j:Nat):Int),ev 0]):=by
 refine .inr ⟨by rw [fillE_w h h2];exact h3,?_⟩
 rw [h]
 simp only
 rw [h2]
def freeAt (w:World) (B:Nat):Prop:=w.frozen? ⟨B,0,none⟩=false∧w.frozen? ⟨B,1,none⟩=false∧w.frozen? ⟨B,2,none⟩=false∧w.frozen? ⟨B,3,none⟩=false∧w.frozen? ⟨B,4,none⟩=false∧w.frozen? ⟨B,5,none⟩=false
theorem freeAt.below {w w':World} {B m:Nat} (h:freeAt w B) (hb:Below m w w') (hm:B < m):freeAt w' B :=
 ⟨(hb.frozen hm).trans h.1,(hb.frozen hm).trans h.2.1,(hb.frozen hm).trans h.2.2.1,(hb.frozen hm).trans h.2.2.2.1,(hb.frozen hm).trans h.2.2.2.2.1,(hb.frozen hm).trans h.2.2.2.2.2⟩
theorem wr_info:(Tryz.prog.info? 59).map (·.size)=some 6:=by kernel_rfl
theorem wr_sized (a0 a1 a2 a3 a4 a5:Value):(Tryz.prog.info? 59).map (·.size)=some (#[a0,a1,a2,a3,a4,a5]:Array Value).size:=wr_info
theorem wr_ones (T R K:Int) (key val:ByteArray) (N:Int):(#[.int .i64 T,.int .i64 R,.int .i64 K,.string key,.string val,.int .i64 N]:Array Value).all (·.oneCell')=true:=by simp [Value.oneCell']
theorem wr_same (T R K:Int) (key val:ByteArray) (N:Int):(#[.int .i64 0,.int .i64 0,.int .i64 0,.string ⟨#[]⟩,.string ⟨#[]⟩,.int .i64 0]:Array Value).size=(#[.int .i64 T,.int .i64 R,.int .i64 K,.string key,.string val,.int .i64 N]:Array Value).size:=rfl
theorem free_row {w:World} {B:Nat} {cs:Array Value} {t:TypeId} (h:w.heap[B]? = some (.cells cs t (0,0))):freeAt w B:=by
 unfold freeAt;simp [World.frozen?,h]
theorem row_at {w:World} {B:Nat} {T R K:Int} {key val:ByteArray} {N:Int} {t:TypeId} {fr:Nat×Nat} (h:w.heap[B]? = some (.cells #[.int .i64 T,.int .i64 R,.int .i64 K,.string key,.string val,.int .i64 N] t fr)):wrAt w B T R K key val N :=
 ⟨cell_of_row _ _ 0 _ _ _ h,cell_of_row _ _ 1 _ _ _ h,cell_of_row _ _ 2 _ _ _ h,cell_of_row _ _ 3 _ _ _ h,cell_of_row _ _ 4 _ _ _ h,cell_of_row _ _ 5 _ _ _ h⟩
theorem getV_le (K:Int) (l:List UInt8):(getV K l).1.length≤l.length∧(getV K l).2.1≤l.length:=by
 unfold getV
 split
 · rcases getL_cases l with ⟨e,hg,he⟩ | ⟨n,k,hg,hn,hk1,hk2,hk3⟩
   · rw [getS_bad hg he];simp
   · by_cases h2:2000 < n
     · rw [getS_big hg h2];simp
     · by_cases h3:l.length < k + n
       · rw [getS_miss hg h2 h3];simp
       · rw [getS_ok hg h2 h3]
         simp only [List.length_take,List.length_drop]
         omega
 · simp
theorem below_row {m:Nat} {w w':World} (h:Below m w w') {B:Nat} (hB:m≤B) (cs:Array Value):Below m w (w'.setRow B cs) :=
 h.trans ⟨rfl,rfl,rfl,by simp [World.setRow],fun k hk=>by
   simp only [World.setRow,Array.getElem?_modify]
   rw [if_neg (by omega)]⟩
theorem row_set {w:World} {B:Nat} {old:Array Value} {t:TypeId} {fr:Nat×Nat} (h:w.heap[B]? = some (.cells old t fr)) (cs:Array Value):(w.setRow B cs).heap[B]? = some (.cells cs t fr):=by
 simp only [World.setRow,Array.getElem?_modify,h]
 simp
theorem below_six {m B:Nat} {w w':World} (h:Below m w w') (hB:m≤B) (a0 a1 a2 a3 a4 a5:Value) :
   Below m w ((((((w'.setCell ⟨B,0,none⟩ a0).setCell ⟨B,1,none⟩ a1).setCell ⟨B,2,none⟩ a2).setCell ⟨B,3,none⟩ a3).setCell ⟨B,4,none⟩ a4).setCell ⟨B,5,none⟩ a5) :=
 (((((h.setCell (p:=⟨B,0,none⟩) hB a0).setCell (p:=⟨B,1,none⟩) hB a1).setCell (p:=⟨B,2,none⟩) hB a2).setCell (p:=⟨B,3,none⟩) hB a3).setCell (p:=⟨B,4,none⟩) hB a4).setCell (p:=⟨B,5,none⟩) hB a5
set_option maxRecDepth 100000 in
set_option maxHeartbeats 8000000 in
theorem wfill_any (T R K:Int) (key val:ByteArray) (N:Int) (s:ByteArray) (w:World) (hk:key.size≤140737488351232) (hs:s.size≤140737488351232) :
   Calls Tryz.prog 182 #[.agg #[.int .i64 T,.int .i64 R,.int .i64 K,.string key,.string val,.int .i64 N],.string s] w fun e w'=>(∃ r,e=.returned r∧FillOut errV T R K key s.data.toList r)∧Below w.heap.size w w':=by
 obtain ⟨n,k,e,hn⟩:∃ n k e,getN K s.data.toList=(n,k,e):=⟨_,_,_,rfl⟩
 have hkl:=(getN_le K s.data.toList)
 rw [hn] at hkl
 simp only at hkl
 have HKL:=Lib.hid hkl
 have HN:=Lib.hid hn
 clear hn hkl
 go_enter Tryz.func182,Tryz.ntmps182
 go_wp2_with fail
 refine (wgetn_any K s _ hs).mono ?_
 rintro r w1 ⟨rfl,rfl⟩
 rw [HN.out]
 by_cases he:e=0
 · subst he
   obtain ⟨v,j,e,hv⟩:∃ v j e,getV K (s.data.toList.drop k)=(v,j,e):=⟨_,_,_,rfl⟩
   have hx:(s.extract k s.size).data.toList=s.data.toList.drop k:=by rw [ext_data,List.take_of_length_le (by rw [←size_data];exact Nat.le_refl _)]
   have HV:Hid (getV K (s.extract k s.size).data.toList=(v,j,e)):=Lib.hid (by rw [hx];exact hv)
   have HV2:=Lib.hid hv
   have HVL:Hid (v.length≤140737488351232∧j≤140737488351232):=Lib.hid (by
     show _∧_
     have h:=getV_le K (s.data.toList.drop k)
     rw [hv,List.length_drop,←size_data] at h
     simp only at h
     omega)
   have HSZ:Hid ((s.extract k s.size).size≤140737488351232):=Lib.hid (by show _≤_;rw [ByteArray.size_extract];omega)
   have d1:(0:Int)≤(k:Int):=by omega
   have d2:(k:Int)≤(s.size:Int):=by have:=HKL.out.1;rw [←size_data] at this;omega
   clear hv hx
   rw [show errV 0=Value.nilIface from rfl]
   go_wp2
   have HA0:=Lib.hid (wrAt_new w T R K key val N 59)
   obtain ⟨W0,hW0⟩:∃ W0,W0=((w.alloc (.cells #[.int .i64 T,.int .i64 R,.int .i64 K,.string key,.string val,.int .i64 N] 59)).alloc (.cells #[.int .i64 0,.int .i64 0,.int .i64 0,.string ⟨#[]⟩,.string ⟨#[]⟩,.int .i64 0] 59)):=⟨_,rfl⟩
   have hs0:W0.heap.size=w.heap.size + 1 + 1:=by rw [hW0];simp
   have ha0:wrAt W0 w.heap.size T R K key val N:=by rw [hW0];exact HA0.out.below ((Below.refl _ _).alloc (Nat.le_refl _) _) (by simp)
   have hz0:wrAt W0 (w.heap.size + 1) 0 0 0 ⟨#[]⟩ ⟨#[]⟩ 0:=by rw [hW0];have h:=wrAt_new (w.alloc (.cells #[.int .i64 T,.int .i64 R,.int .i64 K,.string key,.string val,.int .i64 N] 59)) 0 0 0 ⟨#[]⟩ ⟨#[]⟩ 0 59;rw [World.size_alloc] at h;exact h
   have hf0:freeAt W0 w.heap.size:=by rw [hW0];unfold freeAt;simp
   have hg0:freeAt W0 (w.heap.size + 1):=by rw [hW0];unfold freeAt;simp
   have hb0:Below w.heap.size w W0:=by rw [hW0];exact ((Below.refl _ _).alloc (Nat.le_refl _) _).alloc (by simp) _
   have HRB0:Hid (W0.heap[w.heap.size]? = some (.cells #[.int .i64 T,.int .i64 R,.int .i64 K,.string key,.string val,.int .i64 N] 59 (0,0))∧W0.heap[w.heap.size + 1]? = some (.cells #[.int .i64 0,.int .i64 0,.int .i64 0,.string ⟨#[]⟩,.string ⟨#[]⟩,.int .i64 0] 59 (0,0))∧w.heap.size + 1 < W0.heap.size):=Lib.hid (by
     rw [hW0]
     refine ⟨?_,?_,by simp⟩
     · rw [Below.heap_alloc _ _ _ (by simp)];exact heap_alloc_new _ _
     · have h:=heap_alloc_new (w.alloc (.cells #[.int .i64 T,.int .i64 R,.int .i64 K,.string key,.string val,.int .i64 N] 59)) (.cells #[.int .i64 0,.int .i64 0,.int .i64 0,.string ⟨#[]⟩,.string ⟨#[]⟩,.int .i64 0] 59)
       rw [World.size_alloc] at h;exact h)
   rw [←hW0]
   clear hW0 HA0
   have HRB:Hid (W0.heap[w.heap.size]? = some (.cells #[.int .i64 T,.int .i64 R,.int .i64 K,.string key,.string val,.int .i64 N] 59 (0,0))∧W0.heap[w.heap.size + 1]? = some (.cells #[.int .i64 0,.int .i64 0,.int .i64 0,.string ⟨#[]⟩,.string ⟨#[]⟩,.int .i64 0] 59 (0,0))∧w.heap.size + 1 < W0.heap.size):=Lib.hid (HRB0.out)
   have HX:=Lib.hid (And.intro hs0 (And.intro ha0 (And.intro hz0 (And.intro hf0 (And.intro hg0 hb0)))))
   obtain ⟨c0,c1,c2,c3,c4,c5⟩:=ha0
   clear hs0 hz0 hf0 hg0 hb0
   have HBD:Hid (Below W0.heap.size W0 W0.drew):=Lib.hid ((Below.refl _ _).drew)
   have HSW:Hid (w.heap.size < W0.heap.size):=Lib.hid (by have:=HX.out.1;omega)
   go_region_held3 (fun w'=>w'.cell? ⟨w.heap.size,2,none⟩=some (.int .i64 K)) (first | exact c2 | exact k4) (first | (go_at_call 219;((with_reducible refine (wgetv_any K (s.extract k s.size) W0.drew HSZ.out).mono ?_);rintro r w4 ⟨rfl,hb4⟩;rw [HV.out];have HB4:Hid (Below W0.heap.size W0 w4):=Lib.hid (HBD.out.trans (hb4.mono HBD.out.size));have k4:w4.cell? ⟨w.heap.size,2,none⟩=some (.int .i64 K):=(HB4.out.cell HSW.out).trans c2;clear hb4)))
   obtain ⟨hs0,ha0,hz0,hf0,hg0,hb0⟩:=HX.out
   have ha4:=ha0.below HB4.out HSW.out
   have hz4:=hz0.below HB4.out (by omega)
   have hf4:=hf0.below HB4.out HSW.out
   have hg4:=hg0.below HB4.out (by omega)
   have HBW:Hid (Below w.heap.size w w4):=Lib.hid (hb0.trans (HB4.out.mono (by omega)))
   have HL4:Hid (w.heap.size + 1 < w4.heap.size):=Lib.hid (by have:=HB4.out.size;omega)
   clear c0 c1 c2 c3 c4 c5 k4 hs0 ha0 hz0 hf0 hg0 hb0
   by_cases h2:e=0
   · subst h2
     rw [show errV 0=Value.nilIface from rfl]
     have rB:w4.heap[w.heap.size]? = some (.cells #[.int .i64 T,.int .i64 R,.int .i64 K,.string key,.string val,.int .i64 N] 59 (0,0)):=(HB4.out.block _ HSW.out).trans HRB.out.1
     have rZ:w4.heap[w.heap.size + 1]? = some (.cells #[.int .i64 0,.int .i64 0,.int .i64 0,.string ⟨#[]⟩,.string ⟨#[]⟩,.int .i64 0] 59 (0,0)):=(HB4.out.block _ HRB.out.2.2).trans HRB.out.2.1
     have rB5:((w4.setCell ⟨w.heap.size,5,none⟩ (.int .i64 n)).setCell ⟨w.heap.size,4,none⟩ (.string ⟨v.toArray⟩)).heap[w.heap.size]? = some (.cells #[.int .i64 T,.int .i64 R,.int .i64 K,.string key,.string ⟨v.toArray⟩,.int .i64 n] 59 (0,0)) :=
       heap_setCell_same _ _ 4 _ _ _ (heap_setCell_same _ _ 5 _ _ _ rB)
     have rZ5:((w4.setCell ⟨w.heap.size,5,none⟩ (.int .i64 n)).setCell ⟨w.heap.size,4,none⟩ (.string ⟨v.toArray⟩)).heap[w.heap.size + 1]? = some (.cells #[.int .i64 0,.int .i64 0,.int .i64 0,.string ⟨#[]⟩,.string ⟨#[]⟩,.int .i64 0] 59 (0,0)):=by
       rw [heap_setCell_other _ _ _ _ (by show w.heap.size + 1≠w.heap.size;omega),heap_setCell_other _ _ _ _ (by show w.heap.size + 1≠w.heap.size;omega)];exact rZ
     have HR5:=Lib.hid rB5
     have HZ5:=Lib.hid rZ5
     have HI:=Lib.hid (wr_sized (.int .i64 T) (.int .i64 R) (.int .i64 K) (.string key) (.string ⟨v.toArray⟩) (.int .i64 n))
     have c4:w4.cell? ⟨w.heap.size,4,none⟩=some (.string val):=cell_of_row _ _ 4 _ _ _ rB
     have c5:w4.cell? ⟨w.heap.size,5,none⟩=some (.int .i64 N):=cell_of_row _ _ 5 _ _ _ rB
     obtain ⟨_,_,_,_,f4,f5⟩:=hf4
     clear ha4 hz4 hg4 rB rZ rB5 rZ5
     have HBS:Hid (Below w.heap.size w ((w4.setCell ⟨w.heap.size,5,none⟩ (.int .i64 n)).setCell ⟨w.heap.size,4,none⟩ (.string ⟨v.toArray⟩))):=Lib.hid ((HBW.out.setCell (p:=⟨w.heap.size,5,none⟩) (Nat.le_refl _) _).setCell (p:=⟨w.heap.size,4,none⟩) (Nat.le_refl _) _)
     have HLS:Hid (w.heap.size + 1 < ((w4.setCell ⟨w.heap.size,5,none⟩ (.int .i64 n)).setCell ⟨w.heap.size,4,none⟩ (.string ⟨v.toArray⟩)).heap.size):=Lib.hid (by show _ < _;have:=HL4.out;simpa [World.setCell] using this)
     go_wp2_with (with_reducible refine wpList_load_row rfl _ _ rfl _ rfl _ _ _ _ HR5.out Tryz.underlying59 rfl HI.out ?_)
     have hvl:(⟨v.toArray⟩:ByteArray).size≤140737488351232:=by rw [bs_size];exact HVL.out.1
     refine (wright_any T R K key ⟨v.toArray⟩ n _ hk hvl).mono ?_
     rintro r w5 ⟨rfl,hb5⟩
     obtain ⟨E,hE⟩:∃ E,wriE T R K key ⟨v.toArray⟩ n=E:=⟨_,rfl⟩
     rw [hE]
     have rB6:=(hb5.block _ (Nat.lt_of_succ_lt HLS.out)).trans HR5.out
     have rZ6:=(hb5.block _ HLS.out).trans HZ5.out
     have HB6:Hid (Below w.heap.size w w5):=Lib.hid (HBS.out.trans (hb5.mono HBS.out.size))
     have HL6:Hid (w.heap.size + 1 < w5.heap.size):=Lib.hid (Nat.lt_of_lt_of_le HLS.out hb5.size)
     have HRB6:=Lib.hid rB6
     have HRZ6:=Lib.hid rZ6
     have HE6:=Lib.hid hE
     clear hb5 rB6 rZ6 c4 c5 f4 f5 hE HR5 HZ5 HBS HLS
     by_cases h3:E=0
     · subst h3
       rw [show errV 0=Value.nilIface from rfl]
       obtain ⟨_,_,_,c3,_,_⟩:=row_at HRB6.out
       go_wp2_with fail
       refine (clone_any key w5 (by omega)).mono ?_
       rintro r w6 ⟨rfl,hb6⟩
       have rB7:=(hb6.block _ (Nat.lt_of_succ_lt HL6.out)).trans HRB6.out
       have rZ7:=(hb6.block _ HL6.out).trans HRZ6.out
       have HB7:Hid (Below w.heap.size w w6):=Lib.hid (HB6.out.trans (hb6.mono HB6.out.size))
       obtain ⟨_,_,_,c3,_,_⟩:=row_at rB7
       obtain ⟨_,_,_,f3,_,_⟩:=free_row rB7
       have HRB8:Hid ((w6.setCell ⟨w.heap.size,3,none⟩ (.string key)).heap[w.heap.size]? = some (.cells #[.int .i64 T,.int .i64 R,.int .i64 K,.string key,.string ⟨v.toArray⟩,.int .i64 n] 59 (0,0))):=Lib.hid (heap_setCell_same _ _ 3 _ _ _ rB7)
       have HRZ8:Hid ((w6.setCell ⟨w.heap.size,3,none⟩ (.string key)).heap[w.heap.size + 1]? = some (.cells #[.int .i64 0,.int .i64 0,.int .i64 0,.string ⟨#[]⟩,.string ⟨#[]⟩,.int .i64 0] 59 (0,0))):=Lib.hid (by
         show _=_
         rw [heap_setCell_other _ _ _ _ (by show w.heap.size + 1≠w.heap.size;omega)];exact rZ7)
       have HRZ9:=Lib.hid (row_set HRZ8.out #[.int .i64 T,.int .i64 R,.int .i64 K,.string key,.string ⟨v.toArray⟩,.int .i64 n])
       have HONE:=Lib.hid (wr_ones T R K key ⟨v.toArray⟩ n)
       have HSAME:=Lib.hid (wr_same T R K key ⟨v.toArray⟩ n)
       have hj1:j≤140737488351232:=HVL.out.2
       have hk1:k≤10:=HKL.out.2
       have HOUT:=Lib.hid (fillOut_ok (ev:=errV) (R:=R) HN.out HV2.out HE6.out)
       clear hb6 rB7 rZ7 HRB6 HRZ6
       go_wp2_with (first
         | (with_reducible refine wpList_load_row rfl _ _ rfl _ rfl _ _ _ _ HRB8.out Tryz.underlying59 rfl HI.out ?_)
         | (with_reducible refine wpList_store_row rfl _ _ _ rfl _ _ rfl rfl _ _ HRZ8.out HI.out HSAME.out HONE.out ?_))
       obtain ⟨c0,c1,c2,c3,c4,c5⟩:=row_at HRZ9.out
       refine bodyPost_ret (v:=.tuple #[.agg #[.int .i64 T,.int .i64 R,.int .i64 K,.string key,.string ⟨v.toArray⟩,.int .i64 n],.int .i64 ((k:Int) + j),.nilIface]) (by simp [results,Tryz.results182,go_sem,c0,c1,c2,c3,c4,c5]) rfl ?_
       exact ⟨⟨_,rfl,HOUT.out⟩,below_row (HB7.out.setCell (p:=⟨w.heap.size,3,none⟩) (Nat.le_refl _) _) (Nat.le_succ _) _⟩
     · have HR:=Lib.hid (fillOut_bad (ev:=errV) (T:=T) (R:=R) (key:=key) ((fillE_w (T:=T) (R:=R) (key:=key) HN.out HV2.out).trans HE6.out) h3)
       have HE:=Lib.hid (errV_bad h3)
       rw [errV_bad h3]
       obtain ⟨c0,c1,c2,c3,c4,c5⟩:=row_at HRZ6.out
       obtain ⟨f0,f1,f2,f3,f4,f5⟩:=free_row HRZ6.out
       go_wp2
       refine bodyPost_ret (v:=.tuple #[zeroW,.int .i64 0,.iface 44 (.int .i64 E)]) (by simp [results,Tryz.results182,go_sem,zeroW,c0,c1,c2,c3,c4,c5]) rfl ?_
       exact ⟨⟨_,rfl,by rw [←HE.out];exact HR.out⟩,below_six HB6.out (Nat.le_succ _) _ _ _ _ _ _⟩
   · have HR:=Lib.hid (fillOut_bad (ev:=errV) (T:=T) (R:=R) (key:=key) (fillE_v HN.out HV2.out h2) h2)
     have HE:=Lib.hid (errV_bad h2)
     rw [errV_bad h2]
     obtain ⟨c0,c1,c2,c3,c4,c5⟩:=hz4
     obtain ⟨f0,f1,f2,f3,f4,f5⟩:=hg4
     clear ha4 hf4
     go_wp2
     refine bodyPost_ret (v:=.tuple #[zeroW,.int .i64 0,.iface 44 (.int .i64 e)]) (by simp [results,Tryz.results182,go_sem,zeroW,c0,c1,c2,c3,c4,c5]) rfl ?_
     exact ⟨⟨_,rfl,by rw [←HE.out];exact HR.out⟩,below_six HBW.out (Nat.le_succ _) _ _ _ _ _ _⟩
 · rw [errV_bad he]
   have HR:=Lib.hid (fillOut_bad (ev:=errV) (T:=T) (R:=R) (key:=key) (fillE_n HN.out he) he)
   have HE:=Lib.hid (errV_bad he)
   go_wp2
   refine bodyPost_ret (v:=.tuple #[zeroW,.int .i64 0,.iface 44 (.int .i64 e)]) (by simp [results,Tryz.results182,go_sem,zeroW]) rfl ?_
   exact ⟨⟨_,rfl,by rw [←HE.out];exact HR.out⟩,((Below.refl _ _).alloc (Nat.le_refl _) _).alloc (by simp) _⟩
end Go.Proofs.YtjkbmfpomgcblaaGreatDoor
namespace Go.Proofs.YtjkbmfpomgcblaaGreatDoor
open Go.RowKit
theorem wzig_zag {n:Int} (h0:0≤n):zigN (zagN n)=n:=by unfold zigN zagN;split <;> split <;> omega
theorem wspan_only {l t:List UInt8} {k:Nat} (h:getS l=(t,k,0)):1≤k∧k≤l.length∧t.length≤2000∧spanL t=l.take k:=by
 rcases getL_cases l with ⟨e,hg,he⟩ | ⟨n,j,hg,hn,hk1,hk2,hk3⟩
 · rw [getS_bad hg he] at h;simp only [Prod.mk.injEq] at h;omega
 · by_cases h2:2000 < n
   · rw [getS_big hg h2] at h;simp at h
   · by_cases h3:l.length < j + n
     · rw [getS_miss hg h2 h3] at h;simp at h
     · rw [getS_ok hg h2 h3] at h
       simp only [Prod.mk.injEq] at h
       obtain ⟨rfl,rfl,_⟩:=h
       obtain ⟨_,_,hp⟩:=getL_only hg
       have hl:((l.drop j).take n).length=n:=by simp;omega
       refine ⟨by omega,by omega,by omega,?_⟩
       unfold spanL
       rw [hl,hp,←List.take_add]
theorem back_t (K:Int) (val:ByteArray) (N:Int):(tailB K val N).size=(numB K N).size + (valB K val).size:=by unfold tailB;rw [app_size]
theorem only_n {K:Int} {l:List UInt8} {n:Int} {k:Nat} (h:getN K l=(n,k,0)):(numB K n).data.toList=l.take k∧k≤l.length:=by
 unfold getN at h
 unfold numB
 by_cases h3:K=3
 · rw [if_pos h3] at h ⊢
   obtain ⟨m,j,e,hg⟩:∃ m j e,getL l=(m,j,e):=⟨_,_,_,rfl⟩
   rw [hg] at h
   simp only [Prod.mk.injEq] at h
   obtain ⟨rfl,rfl,rfl⟩:=h
   have:=getL_only hg
   rw [bs_data,wzig_zag (by omega),Int.toNat_natCast]
   exact ⟨this.2.2,this.2.1⟩
 · rw [if_neg h3] at h ⊢
   by_cases h4:K=4
   · rw [if_pos h4] at h ⊢
     rcases getL_cases l with ⟨e,hg,he⟩ | ⟨m,j,hg,_⟩
     · rw [intL_bad hg he] at h
       simp only [Prod.mk.injEq] at h
       exact absurd h.2.2 he
     · by_cases hm:(1000:Int) < 0∨(1000:Int) < m
       · rw [intL_range hg hm] at h;simp at h
       · rw [intL_ok hg hm] at h
         simp only [Prod.mk.injEq] at h
         obtain ⟨rfl,rfl,_⟩:=h
         have:=getL_only hg
         rw [bs_data,Int.toNat_natCast]
         exact ⟨this.2.2,this.2.1⟩
   · rw [if_neg h4] at h ⊢
     simp only [Prod.mk.injEq] at h
     obtain ⟨_,rfl,_⟩:=h
     exact ⟨by rw [List.take_zero],Nat.zero_le _⟩
theorem only_v {K:Int} {l v:List UInt8} {j:Nat} (h:getV K l=(v,j,0)):(valB K ⟨v.toArray⟩).data.toList=l.take j∧j≤l.length:=by
 unfold getV at h
 unfold valB
 cases hV:hasV K with
 | true =>
   rw [hV,if_pos rfl] at h
   rw [if_pos rfl,spanB_data,bs_data]
   have:=wspan_only h
   exact ⟨this.2.2.2,this.2.1⟩
 | false =>
   rw [hV,if_neg (by decide)] at h
   rw [if_neg (by decide)]
   simp only [Prod.mk.injEq] at h
   obtain ⟨_,rfl,_⟩:=h
   exact ⟨by rw [List.take_zero],Nat.zero_le _⟩
theorem only_t {K:Int} {l v:List UInt8} {n:Int} {k j:Nat} (h:getN K l=(n,k,0)) (h2:getV K (l.drop k)=(v,j,0)):(tailB K ⟨v.toArray⟩ n).data.toList=l.take (k + j)∧k + j≤l.length:=by
 obtain ⟨a1,a2⟩:=only_n h
 obtain ⟨b1,b2⟩:=only_v h2
 rw [List.length_drop] at b2
 unfold tailB
 rw [app_data,a1,b1]
 refine ⟨?_,by omega⟩
 rw [List.take_add]
end Go.Proofs.YtjkbmfpomgcblaaGreatDoor
