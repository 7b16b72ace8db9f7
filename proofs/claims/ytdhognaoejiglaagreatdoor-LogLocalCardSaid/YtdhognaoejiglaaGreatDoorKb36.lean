import Derived.Test.YtdhognaoejiglaaGreatDoorKb32
import Derived.Test.YtdhognaoejiglaaGreatDoorKb35
namespace Go.Proofs.YtdhognaoejiglaaGreatDoor
open Lib (hid)
set_option maxRecDepth 100000
set_option maxHeartbeats 8000000
section
open Go.RowKit
theorem rJ {w w':World} {o:Obj} {R:Nat} (h:(w.alloc o).grownBy w' (some R)):w.grownBy w' (some R) :=
 ⟨h.os,h.tape,h.output,Nat.le_trans (by simp) h.size,fun k hk hne=>(h.block k (by simp;omega) hne).trans (Below.heap_alloc _ _ _ hk)⟩
theorem jc (R:Nat) (s:ByteArray) (a n k:Nat) (most:Int) (w:World) (h:Rd w R s a) (hg:errT w) (hs:s.size≤1000000) (ha:a≤s.size) (h0 : -9223372036854775808≤most) (h1:most≤9223372036854775807) (hgv:intL (s.data.toList.drop a) most=(n,k,0)) (hk:k≤1000000) :
 Calls Tryz.prog 189 #[.pointer (some ⟨R,0,none⟩),.int .i64 most] w fun e w'=>e=.returned (.int .i64 (n:Int))∧Rd w' R s (a+k)∧w.grownBy w' (some R):=by
 have hmf:∀ (fn:Fn) (first cap:Array Value) (w:World),(Instr.makeFunc fn first cap).run Tryz.prog w=.ok (.func fn first cap) w:=fun _ _ _ _=>rfl
 have H:=hid (h.below ((Below.refl _ _).alloc (Nat.le_refl _) (.cells #[.int .i64 most] 3)));have HG:=hid (hg.alloc (.cells #[.int .i64 most] 3));have HGV:=hid hgv;have H0:=hid h0;have H1:=hid h1;clear h hg hgv h0 h1;go_enter Tryz.func189,Tryz.ntmps189
 go_wp2_with fail
 refine (zK R s a n k w.heap.size most _ H.out HG.out hs ha H0.out H1.out (by simp) HGV.out hk).mono ?_;rintro r w1 ⟨rfl,hr1,hg1⟩;have HR1:=hid hr1;have HG1:=hid (rJ hg1);clear hr1 hg1;go_wp2;go_ret;exact ⟨rfl,HR1.out,HG1.out⟩
theorem jb (R:Nat) (s:ByteArray) (a x:Nat) (most:Int) (w:World) (h:Rd w R s a) (hg:errT w) (hs:s.size≤1000000) (ha:a≤s.size) (h0 : -9223372036854775808≤most) (h1:most≤9223372036854775807) (hgv:intL (s.data.toList.drop a) most=(0,0,x)) (hx:x≠0) :
 Calls Tryz.prog 189 #[.pointer (some ⟨R,0,none⟩),.int .i64 most] w fun e w'=>eh (x,(a:Int)) e w'∧w.grownBy w' (some R):=by
 have hmf:∀ (fn:Fn) (first cap:Array Value) (w:World),(Instr.makeFunc fn first cap).run Tryz.prog w=.ok (.func fn first cap) w:=fun _ _ _ _=>rfl
 have H:=hid (h.below ((Below.refl _ _).alloc (Nat.le_refl _) (.cells #[.int .i64 most] 3)));have HG:=hid (hg.alloc (.cells #[.int .i64 most] 3));have HGV:=hid hgv;have H0:=hid h0;have H1:=hid h1;clear h hg hgv h0 h1;go_enter Tryz.func189,Tryz.ntmps189
 go_wp2_with fail
 refine (zJ R s a x 0 w.heap.size most _ H.out HG.out hs ha H0.out H1.out (by simp) HGV.out rfl hx).mono ?_;rintro r w1 ⟨⟨t,u,rfl,hne,ha⟩,hg1⟩;exact And.intro rfl ⟨⟨t,u,rfl,hne,ha⟩,rJ hg1⟩
theorem vM (T R K:Int) (key val:ByteArray) (N:Int) (s V:ByteArray) (N':Int) (k:Nat) (w:World) (hk:key.size≤140737488351232) (hs:s.size≤140737488351232) (h0:aH T R K key s.data.toList=0) (hV:cy K s.data.toList=V) (hN:(getN K s.data.toList).1=N') (hn:cH K s.data.toList=k) :
 Calls Tryz.prog 200 #[.agg #[.int .i64 T,.int .i64 R,.int .i64 K,.string key,.string val,.int .i64 N],.string s] w fun e w'=>e=.returned (.tuple #[.agg #[.int .i64 T,.int .i64 R,.int .i64 K,.string key,.string V,.int .i64 N'],.int .i64 (k:Int),.nilIface])∧Below w.heap.size w w':=by
 refine (vK T R K key val N s w hk hs).mono ?_;rintro e w' ⟨⟨r,rfl,hr⟩,hb⟩;refine ⟨?_,hb⟩;rcases hr with ⟨h1,_⟩ | ⟨_,h2⟩
 ·exact absurd h0 h1
 ·rw [h2,←hV,←hN,←hn];rfl
theorem vL (T R K:Int) (key val:ByteArray) (N:Int) (s:ByteArray) (x:Nat) (w:World) (hk:key.size≤140737488351232) (hs:s.size≤140737488351232) (h0:aH T R K key s.data.toList=x) (hx:x≠0) :
 Calls Tryz.prog 200 #[.agg #[.int .i64 T,.int .i64 R,.int .i64 K,.string key,.string val,.int .i64 N],.string s] w fun e w'=>e=.returned (.tuple #[.agg #[.int .i64 0,.int .i64 0,.int .i64 0,.string ⟨#[]⟩,.string ⟨#[]⟩,.int .i64 0],.int .i64 0,.iface 68 (.int .i64 (x:Int))])∧Below w.heap.size w w':=by
 refine (vK T R K key val N s w hk hs).mono ?_;rintro e w' ⟨⟨r,rfl,hr⟩,hb⟩;refine ⟨?_,hb⟩;rcases hr with ⟨_,h2⟩ | ⟨h1,_⟩
 ·rw [h2,h0,dS hx];rfl
 ·exact absurd (h0.symm.trans h1) hx
theorem sK (T R K:Int) (key val:ByteArray) (N:Int) (s V:ByteArray) (N':Int) (k Q:Nat) (w:World) (hQ:wrAt w Q T R K key val N) (hk:key.size≤140737488351232) (hs:s.size≤140737488351232) (h0:aH T R K key s.data.toList=0) (hV:cy K s.data.toList=V) (hN:(getN K s.data.toList).1=N') (hn:cH K s.data.toList=k) :
 Calls Tryz.prog 215 #[.string s,.pointer (some ⟨Q,0,none⟩)] w fun e w'=>e=.returned (.tuple #[.agg #[.int .i64 T,.int .i64 R,.int .i64 K,.string key,.string V,.int .i64 N'],.int .i64 (k:Int),.nilIface])∧Below w.heap.size w w':=by
 obtain ⟨c0,c1,c2,c3,c4,c5⟩:=hQ.below ((Below.refl _ _).alloc (Nat.le_refl _) (.cells #[.int .i64 0,.int .i64 0,.int .i64 0,.string ⟨#[]⟩,.string ⟨#[]⟩,.int .i64 0] 38)) (bg hQ.1);have H0:=hid h0;have HV:=hid hV;have HN:=hid hN;have HK:=hid hn;clear h0 hV hN hn hQ;go_enter Tryz.func215,Tryz.ntmps215
 go_wp2_with fail
 refine (vM T R K key val N s V N' k _ hk hs H0.out HV.out HN.out HK.out).mono ?_;rintro r w1 ⟨rfl,hb1⟩;have hq:w1.heap[w.heap.size]? = some (.cells #[.int .i64 0,.int .i64 0,.int .i64 0,.string ⟨#[]⟩,.string ⟨#[]⟩,.int .i64 0] 38 (0,0)):=(hb1.block _ (by simp)).trans (heap_alloc_new w _);have HB1:Hid (Below w.heap.size w w1):=hid (((Below.refl _ _).alloc (Nat.le_refl _) _).trans (hb1.mono (by simp)));have HQ:=hid hq;clear hb1 c0 c1 c2 c3 c4 c5;have HI:=hid (eR (.int .i64 T) (.int .i64 R) (.int .i64 K) (.string key) (.string V) (.int .i64 N'));have HONE:=hid (eQ T R K key V N');have HSAME:=hid (fj T R K key V N');obtain ⟨e0,e1,e2,e3,e4,e5⟩:=bZ (cA hq #[.int .i64 T,.int .i64 R,.int .i64 K,.string key,.string V,.int .i64 N']);clear hq;go_wp2_with (with_reducible refine wpList_store_row rfl _ _ _ rfl _ _ rfl rfl _ _ HQ.out HI.out HSAME.out HONE.out ?_)
 refine bodyPost_ret (v:=.tuple #[.agg #[.int .i64 T,.int .i64 R,.int .i64 K,.string key,.string V,.int .i64 N'],.int .i64 (k:Int),.nilIface]) (by simp [results,Tryz.results215,go_sem,e0,e1,e2,e3,e4,e5]) rfl ?_;exact ⟨rfl,dQ HB1.out (Nat.le_refl _) _⟩
theorem sJ (T R K:Int) (key val:ByteArray) (N:Int) (s:ByteArray) (x Q:Nat) (w:World) (hQ:wrAt w Q T R K key val N) (hk:key.size≤140737488351232) (hs:s.size≤140737488351232) (h0:aH T R K key s.data.toList=x) (hx:x≠0) :
 Calls Tryz.prog 215 #[.string s,.pointer (some ⟨Q,0,none⟩)] w fun e w'=>e=.returned (.tuple #[.agg #[.int .i64 0,.int .i64 0,.int .i64 0,.string ⟨#[]⟩,.string ⟨#[]⟩,.int .i64 0],.int .i64 0,.iface 68 (.int .i64 (x:Int))])∧Below w.heap.size w w':=by
 obtain ⟨c0,c1,c2,c3,c4,c5⟩:=hQ.below ((Below.refl _ _).alloc (Nat.le_refl _) (.cells #[.int .i64 0,.int .i64 0,.int .i64 0,.string ⟨#[]⟩,.string ⟨#[]⟩,.int .i64 0] 38)) (bg hQ.1);have H0:=hid h0;clear h0 hQ;go_enter Tryz.func215,Tryz.ntmps215
 go_wp2_with fail
 refine (vL T R K key val N s x _ hk hs H0.out hx).mono ?_;rintro r w1 ⟨rfl,hb1⟩;have hq:w1.heap[w.heap.size]? = some (.cells #[.int .i64 0,.int .i64 0,.int .i64 0,.string ⟨#[]⟩,.string ⟨#[]⟩,.int .i64 0] 38 (0,0)):=(hb1.block _ (by simp)).trans (heap_alloc_new w _);have HB1:Hid (Below w.heap.size w w1):=hid (((Below.refl _ _).alloc (Nat.le_refl _) _).trans (hb1.mono (by simp)));have HQ:=hid hq;clear hb1 c0 c1 c2 c3 c4 c5;have HI:=hid (eR (.int .i64 0) (.int .i64 0) (.int .i64 0) (.string ⟨#[]⟩) (.string ⟨#[]⟩) (.int .i64 0));have HONE:=hid (eQ 0 0 0 ⟨#[]⟩ ⟨#[]⟩ 0);obtain ⟨e0,e1,e2,e3,e4,e5⟩:=bZ (cA hq #[.int .i64 0,.int .i64 0,.int .i64 0,.string ⟨#[]⟩,.string ⟨#[]⟩,.int .i64 0]);clear hq;go_wp2_with (with_reducible refine wpList_store_row rfl _ _ _ rfl _ _ rfl rfl _ _ HQ.out HI.out rfl HONE.out ?_)
 refine bodyPost_ret (v:=.tuple #[.agg #[.int .i64 0,.int .i64 0,.int .i64 0,.string ⟨#[]⟩,.string ⟨#[]⟩,.int .i64 0],.int .i64 0,.iface 68 (.int .i64 (x:Int))]) (by simp [results,Tryz.results215,go_sem,e0,e1,e2,e3,e4,e5]) rfl ?_;exact ⟨rfl,dQ HB1.out (Nat.le_refl _) _⟩
end
section
open Go.RowKit
structure Logs (W w:World) (D:Nat→Prop) (L:List (Nat×LogS)):Prop where
 ex:∃ Fs:Nat→Nat→Prop,(∀ i P s,L[i]? = some (P,s)→aQ w P (Fs i) s∧∀ k,Fs i k→W.heap.size≤k)∧(∀ i j k,i<L.length→j<L.length→i≠j→Fs i k→¬ Fs j k)∧(∀ i k,i<L.length→D k→¬ Fs i k)
 data:∀ k,D k→k<w.heap.size
 ok:∀ p∈L,aM p.2
 bel:Below W.heap.size W w
theorem Logs.nil (W:World):Logs W W (fun _=>False) []:=⟨⟨fun _ _=>False,fun i P s h=>(by simp at h),fun i j k h=>(by simp at h),fun i k h=>(by simp at h)⟩,fun k h=>h.elim,fun p h=>(by cases h),Below.refl _ _⟩
theorem Logs.call {W w w':World} {D D':Nat→Prop} {L:List (Nat×LogS)} (h:Logs W w D L) (hb:Below w.heap.size w w') (hD:∀ k,D' k→D k∨(w.heap.size≤k∧k<w'.heap.size)):Logs W w' D' L:=by
 obtain ⟨⟨Fs,h1,h2,h3⟩,h4,h5,h6⟩:=h;refine ⟨⟨Fs,fun i P s hi=>⟨(h1 i P s hi).1.below hb,(h1 i P s hi).2⟩,h2,fun i k hi hk hf=>?_⟩,fun k hk=>?_,h5,h6.trans (hb.mono h6.size)⟩
 ·rcases hD k hk with h | ⟨h,_⟩
  ·exact h3 i k hi h hf
  ·obtain ⟨⟨P,s⟩,hL⟩:∃ p,L[i]? = some p:=⟨_,List.getElem?_eq_getElem hi⟩;have:=(h1 i P s hL).1.lt k hf;omega
 ·rcases hD k hk with h | ⟨_,h⟩
  ·exact Nat.lt_of_lt_of_le (h4 k h) hb.size
  ·exact h
theorem Logs.keep {W w w':World} {D:Nat→Prop} {L:List (Nat×LogS)} (h:Logs W w D L) (hb:Below w.heap.size w w'):Logs W w' D L:=h.call hb (fun _ h=>.inl h)
theorem Logs.new {W w w':World} {D:Nat→Prop} {L:List (Nat×LogS)} {P:Nat} {s:LogS} (h:Logs W w D L) (hb:Below w.heap.size w w') (hP:P=w.heap.size) (hl:aQ w' P (fun k=>k=P) s) (ok:aM s):Logs W w' D (L++[(P,s)]):=by
 obtain ⟨⟨Fs,h1,h2,h3⟩,h4,h5,h6⟩:=h;have hlt:∀ i k,i<L.length→Fs i k→k<w.heap.size:=fun i k hi hk=>by
  obtain ⟨⟨P',s'⟩,hL⟩:∃ p,L[i]? = some p:=⟨_,List.getElem?_eq_getElem hi⟩;exact (h1 i P' s' hL).1.lt k hk
 refine ⟨⟨fun i=>if i<L.length then Fs i else fun k=>k=P,fun i P' s' hi=>?_,fun i j k hi hj hij hk=>?_,fun i k hi hk=>?_⟩,fun k hk=>Nat.lt_of_lt_of_le (h4 k hk) hb.size,fun p hp=>?_,h6.trans (hb.mono h6.size)⟩
 ·by_cases hl':i<L.length
  ·rw [List.getElem?_append_left hl'] at hi;show aQ w' P' (if i<L.length then Fs i else _) s'∧∀ k,(if i<L.length then Fs i else _) k→_
   rw [if_pos hl'];exact ⟨(h1 i P' s' hi).1.below hb,(h1 i P' s' hi).2⟩
  ·rw [List.getElem?_append_right (by omega)] at hi;have hi0:i-L.length=0:=by
    have:=(List.getElem?_eq_some_iff.1 hi).1;simp at this;omega
   rw [hi0] at hi;simp only [List.getElem?_cons_zero,Option.some.injEq,Prod.mk.injEq] at hi
   obtain ⟨rfl,rfl⟩:=hi;show aQ w' P (if i<L.length then Fs i else _) s∧∀ k,(if i<L.length then Fs i else _) k→_
   rw [if_neg hl'];exact ⟨hl,fun k (e:k=P)=>by have:=h6.size;omega⟩
 ·rw [List.length_append] at hi hj;simp only [List.length_cons,List.length_nil] at hi hj
  dsimp only at hk ⊢
  by_cases hi':i<L.length
  ·rw [if_pos hi'] at hk;by_cases hj':j<L.length
   ·rw [if_pos hj'];exact h2 i j k hi' hj' hij hk
   ·rw [if_neg hj'];intro (e:k=P);have:=hlt i k hi' hk;omega
  ·rw [if_neg hi'] at hk;have hk':k=P:=hk;by_cases hj':j<L.length
   ·rw [if_pos hj'];intro e;have:=hlt j k hj' e;omega
   ·omega
 ·have:=h4 k hk;dsimp only
  by_cases hi':i<L.length
  ·rw [if_pos hi'];exact h3 i k hi' hk
  ·rw [if_neg hi'];intro (e:k=P);omega
 ·rcases List.mem_append.1 hp with hp | hp
  ·exact h5 p hp
  ·rw [List.mem_singleton.1 hp];exact ok
theorem Logs.at {W w:World} {D:Nat→Prop} {L:List (Nat×LogS)} {i P:Nat} {s:LogS} (h:Logs W w D L) (hi:L[i]? = some (P,s)) :
 ∃ F,aQ w P F s∧aM s∧∀ F' s' w',(∀ k,F' k→F k∨w.heap.size≤k)→aQ w' P F' s'→But F w w'→aM s' →
  Logs W w' D (L.set i (P,s'))∧(∀ k,D k→w'.heap[k]? = w.heap[k]?)∧w.heap.size≤w'.heap.size:=by
 obtain ⟨⟨Fs,h1,h2,h3⟩,h4,h5,h6⟩:=h;have hil:=(List.getElem?_eq_some_iff.1 hi).1;refine ⟨Fs i,(h1 i P s hi).1,h5 _ (List.mem_of_getElem? hi),fun F' s' w' hF hl hb ok=>⟨⟨⟨fun j=>if j=i then F' else Fs j,fun j P' s'' hj=>?_,fun a b k ha hb' hab hk=>?_,fun j k hj hk=>?_⟩,fun k hk=>Nat.lt_of_lt_of_le (h4 k hk) hb.size,fun p hp=>?_,But.on h6 hb h6.size (h1 i P s hi).2⟩,fun k hk=>hb.block k (h4 k hk) (h3 i k hil hk),hb.size⟩⟩
 ·show aQ w' P' (if j=i then F' else Fs j) s''∧∀ k,(if j=i then F' else Fs j) k→_
  rcases dY hj with ⟨rfl,e⟩ | ⟨hne,hj⟩
  ·rw [if_pos rfl];simp only [Prod.mk.injEq] at e
   obtain ⟨rfl,rfl⟩:=e;refine ⟨hl,fun k hk=>?_⟩;rcases hF k hk with hk | hk
   ·exact (h1 j _ _ hi).2 k hk
   ·have:=h6.size;omega
  ·rw [if_neg hne];have hjl:=(List.getElem?_eq_some_iff.1 hj).1;exact ⟨(h1 j P' s'' hj).1.but hb (fun k hk hk2=>h2 j i k hjl hil hne hk hk2),(h1 j P' s'' hj).2⟩
 ·rw [List.length_set] at ha hb';have hlt:∀ j k,j<L.length→Fs j k→k<w.heap.size:=fun j k hj hk=>by
   obtain ⟨⟨P',s''⟩,hL⟩:∃ p,L[j]? = some p:=⟨_,List.getElem?_eq_getElem hj⟩;exact (h1 j P' s'' hL).1.lt k hk
  dsimp only at hk ⊢
  by_cases e:a=i
  ·subst e;rw [if_pos rfl] at hk;rw [if_neg (fun e=>hab e.symm)];intro hk2;rcases hF k hk with hk | hk
   ·exact h2 a b k hil hb' hab hk hk2
   ·have:=hlt b k hb' hk2;omega
  ·rw [if_neg e] at hk;by_cases e2:b=i
   ·subst e2;rw [if_pos rfl];intro hk2;rcases hF k hk2 with hk2 | hk2
    ·exact h2 a b k ha hil hab hk hk2
    ·have:=hlt a k ha hk;omega
   ·rw [if_neg e2];exact h2 a b k ha hb' hab hk
 ·rw [List.length_set] at hj;dsimp only
  by_cases e:j=i
  ·subst e;rw [if_pos rfl];intro hk2;rcases hF k hk2 with hk2 | hk2
   ·exact h3 j k hj hk hk2
   ·have:=h4 k hk;omega
  ·rw [if_neg e];exact h3 j k hj hk
 ·rcases fI hp with rfl | hp
  ·exact ok
  ·exact h5 p hp
theorem ae.at {w w':World} {v:Value} {l:List Ent} (h:ae w v l) (hs:w.heap.size≤w'.heap.size) (hb:∀ k,v.ownBlock=some k→w'.heap[k]? = w.heap[k]?):ae w' v l:=by
 rcases h with ⟨a,c,h1,h2⟩ | ⟨b,off,c,h1,h0,h2,h3⟩
 ·exact .inl ⟨a,c,h1,h2⟩
 ·exact .inr ⟨b,off,c,h1,h0,Nat.lt_of_lt_of_le h2 hs,fun j u hj=>(World.cell?_of_block (w:=w) (a:=⟨b,off+j,Option.none⟩) (hb b (by rw [h1];rfl))).trans (h3 j u hj)⟩
theorem Gnew {W w:World} {D:Nat→Prop} {L:List (Nat×LogS)} (h:Logs W w D L) (r:Int) (hr:0≤r∧r≤200) :
 Calls Tryz.prog 21 #[.int .i64 r] w fun e w'=>e=.returned (.tuple #[.pointer (some ⟨w.heap.size,0,none⟩),.nilIface])∧Logs W w' D (L++[(w.heap.size,⟨r,[],[]⟩)])∧Below w.heap.size w w' :=
 (Be r w hr).mono fun _ _ ⟨h1,h2,h3⟩=>⟨h1,h.new h3 rfl h2 (l5 hr),h3⟩
theorem pH {W w:World} {D:Nat→Prop} {L:List (Nat×LogS)} (h:Logs W w D L) {i P:Nat} {s:LogS} (hi:L[i]? = some (P,s)) (T0 R0 K:Int) (key val:ByteArray) (N:Int) (hk:key.size≤140737488351232) (hv:val.size≤140737488351232) (hg:errT w) (he:lcE s ⟨T0,R0,K,key,val,N⟩=0) :
 Calls Tryz.prog 30 #[.pointer (some ⟨P,0,none⟩),.agg #[.int .i64 T0,.int .i64 R0,.int .i64 K,.string key,.string val,.int .i64 N]] w fun e w' =>
  e=.returned (.tuple #[.agg #[.int .i64 (maxT s.hv+1),.int .i64 s.rep],.nilIface])∧Logs W w' D (L.set i (P,lcS s ⟨T0,R0,K,key,val,N⟩))∧(∀ k,D k→w'.heap[k]? = w.heap[k]?)∧w.heap.size≤w'.heap.size:=by
 obtain ⟨F,h1,h2,h3⟩:=h.at hi;refine (sr P F s T0 R0 K key val N w h1 h2 hk hv hg).mono ?_;rintro e w' (⟨h4,_⟩ | ⟨_,h4,F',h5,h6,h7⟩)
 ·exact absurd he h4
 ·obtain ⟨g1,g2,g3⟩:=h3 F' _ w' h5 h6 h7 (kZ h2 he);exact ⟨h4,g1,g2,g3⟩
theorem pI {W w:World} {D:Nat→Prop} {L:List (Nat×LogS)} (h:Logs W w D L) {i P:Nat} {s:LogS} (hi:L[i]? = some (P,s)) (T0 R0 K:Int) (key val:ByteArray) (N:Int) (hk:key.size≤140737488351232) (hv:val.size≤140737488351232) (hg:errT w) {x:Nat} (he:lcE s ⟨T0,R0,K,key,val,N⟩=x) (hx:x≠0) :
 Calls Tryz.prog 30 #[.pointer (some ⟨P,0,none⟩),.agg #[.int .i64 T0,.int .i64 R0,.int .i64 K,.string key,.string val,.int .i64 N]] w fun e w' =>
  e=.returned (.tuple #[.agg #[.int .i64 0,.int .i64 0],.iface 68 (.int .i64 (x:Nat))])∧Logs W w' D L∧Below w.heap.size w w':=by
 obtain ⟨F,h1,h2,h3⟩:=h.at hi;refine (sr P F s T0 R0 K key val N w h1 h2 hk hv hg).mono ?_;rintro e w' (⟨_,h4,h5⟩ | ⟨h4,_⟩)
 ·rw [he] at h4;exact ⟨h4,h.keep h5,h5⟩
 ·rw [he] at h4;exact absurd h4 hx
theorem wh {W w:World} {D:Nat→Prop} {L:List (Nat×LogS)} (h:Logs W w D L) {i P:Nat} {s:LogS} (hi:L[i]? = some (P,s)) (uf uh uw:Value) (f hh:List Ent) (b:List Wr) (hx:aC w uf uh uw f hh b) (hg:errT w) (he:(accE s f hh b).1=0) :
 Calls Tryz.prog 23 #[.pointer (some ⟨P,0,none⟩),.agg #[uf,uh,uw]] w fun e w' =>
  e=.returned (.tuple #[.int .i64 ((bd s.ws b).length:Int),.nilIface])∧Logs W w' D (L.set i (P,accS s hh b))∧(∀ k,D k→w'.heap[k]? = w.heap[k]?)∧w.heap.size≤w'.heap.size:=by
 obtain ⟨F,h1,h2,h3⟩:=h.at hi;refine (AB P F s uf uh uw f hh b w h1 h2 hx hg).mono ?_;rintro e w' (⟨h4,_⟩ | ⟨_,h4,F',h5,h6,h7⟩)
 ·exact absurd he h4
 ·obtain ⟨g1,g2,g3⟩:=h3 F' _ w' h5 h6 h7 (pM h2 he);exact ⟨h4,g1,g2,g3⟩
theorem wk {W w:World} {D:Nat→Prop} {L:List (Nat×LogS)} (h:Logs W w D L) {i P:Nat} {s:LogS} (hi:L[i]? = some (P,s)) :
 Calls Tryz.prog 17 #[.pointer (some ⟨P,0,none⟩)] w fun e w'=>∃ a c,e=.returned (.slice a s.hv.length c)∧ag w' w.heap.size (.slice a s.hv.length c) s.hv∧Below w.heap.size w w':=by
 obtain ⟨F,h1,h2,h3⟩:=h.at hi;refine (kX P s F w h1 h2).mono ?_;rintro e w' ⟨u,rfl,ho,hb⟩;obtain ⟨a,c,rfl,_⟩:=ho.is.form;exact ⟨a,c,rfl,ho,hb⟩
theorem wm {W w:World} {D:Nat→Prop} {L:List (Nat×LogS)} (h:Logs W w D L) {i P:Nat} {s:LogS} (hi:L[i]? = some (P,s)) :
 Calls Tryz.prog 16 #[.pointer (some ⟨P,0,none⟩)] w fun e w'=>∃ a c,e=.returned (.slice a s.ws.length c)∧ak w' w.heap.size (.slice a s.ws.length c) s.ws∧Below w.heap.size w w':=by
 obtain ⟨F,h1,h2,h3⟩:=h.at hi;refine (sA P s F w h1 h2).mono ?_;rintro e w' ⟨u,rfl,ho,hb⟩;obtain ⟨a,c,rfl,_⟩:=ho.is.form;exact ⟨a,c,rfl,ho,hb⟩
theorem wj {W w:World} {D:Nat→Prop} {L:List (Nat×LogS)} (h:Logs W w D L) {i P:Nat} {s:LogS} (hi:L[i]? = some (P,s)) :
 Calls Tryz.prog 34 #[.pointer (some ⟨P,0,none⟩)] w fun e w'=>∃ u,e=.returned u∧fN w' u (cg s.ws)∧Below w.heap.size w w'∧∀ k,u.ownBlock=some k→w.heap.size≤k:=by
 obtain ⟨F,h1,h2,h3⟩:=h.at hi;exact AO P s F w h1 h2
theorem wl {W w:World} {D:Nat→Prop} {L:List (Nat×LogS)} (h:Logs W w D L) {i P:Nat} {s:LogS} (hi:L[i]? = some (P,s)) (v:Value) (f:List Ent) (hf:ae w v f) (hfl:f.length≤9223372036854775807) (hg:errT w) (he:bo s f=0) :
 Calls Tryz.prog 22 #[.pointer (some ⟨P,0,none⟩),v] w fun e w'=>∃ a1 c1 a2 c2 a3 c3,e=.returned (.tuple #[.agg #[.slice a1 f.length c1,.slice a2 (aT s f).length c2,.slice a3 (aD s f).length c3],.nilIface]) ∧
  ag w' w.heap.size (.slice a1 f.length c1) f∧ag w' w.heap.size (.slice a2 (aT s f).length c2) (aT s f)∧ak w' w.heap.size (.slice a3 (aD s f).length c3) (aD s f)∧Below w.heap.size w w':=by
 obtain ⟨F,h1,h2,h3⟩:=h.at hi;refine (sw P F s v f w h1 h2 hf hfl hg).mono ?_;rintro e w' (⟨h4,_⟩ | ⟨_,uf,uh,uw,rfl,o1,o2,o3,hb⟩)
 ·exact absurd he h4
 ·obtain ⟨a1,c1,rfl,_⟩:=o1.is.form;obtain ⟨a2,c2,rfl,_⟩:=o2.is.form;obtain ⟨a3,c3,rfl,_⟩:=o3.is.form;exact ⟨a1,c1,a2,c2,a3,c3,rfl,o1,o2,o3,hb⟩
theorem mt {W w:World} {D:Nat→Prop} {L:List (Nat×LogS)} (h:Logs W w D L) {i P:Nat} {s:LogS} (hi:L[i]? = some (P,s)) (v:Value) (f:List Ent) (hf:ae w v f) (hfl:f.length≤9223372036854775807) (hg:errT w) {x:Nat} (he:bo s f=x) (hx:x≠0) :
 Calls Tryz.prog 22 #[.pointer (some ⟨P,0,none⟩),v] w fun e w'=>e=.returned (.tuple #[.agg #[.slice none 0 0,.slice none 0 0,.slice none 0 0],.iface 68 (.int .i64 (x:Nat))])∧Below w.heap.size w w':=by
 obtain ⟨F,h1,h2,h3⟩:=h.at hi;refine (sw P F s v f w h1 h2 hf hfl hg).mono ?_;rintro e w' (⟨_,h4,h5⟩ | ⟨h4,_⟩)
 ·rw [he] at h4;exact ⟨h4,h5⟩
 ·rw [he] at h4;exact absurd h4 hx
theorem vS {x:Wr} (h:wE x=0):WrOk x:=by
 obtain ⟨h1,_,h3,h4,h5,h6⟩:=fL (show wriE x.time x.rep x.kind x.key x.value x.n=0 from h);have hn : -1125899906842624≤x.n∧x.n≤1125899906842624:=by
  unfold ci at h6;split at h6
  ·simp at h6;omega
  ·split at h6
   ·simp at h6;omega
   ·rename_i k3 k4;have:x.n=0:=Classical.byContradiction (fun e=>h5 (.inr ⟨e,by unfold hasN;simp [k3,k4]⟩));omega
 exact ⟨by omega,by omega,by omega,by omega⟩
theorem fV {w:World} {b1 b2 b3:Nat} {uf uh uw:Value} {f h:List Ent} {l:List Wr} (o1:ag w b1 uf f) (o2:ag w b2 uh h) (o3:ak w b3 uw l) (h1:f.length≤1000000) (h2:h.length≤1000000) (h3:l.length≤1000000) (hw:∀ x∈l,wE x=0):aC w uf uh uw f h l :=
 ⟨o1.is,o2.is,o3.is,by omega,by omega,by omega,fun x hx=>vS (hw x hx)⟩
end
