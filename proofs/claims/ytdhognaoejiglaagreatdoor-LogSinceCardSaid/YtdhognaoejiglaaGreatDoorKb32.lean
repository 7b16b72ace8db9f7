import Derived.Test.YtdhognaoejiglaaGreatDoorKb31
namespace Go.Proofs.YtdhognaoejiglaaGreatDoor
open Lib (hid)
set_option maxRecDepth 100000
set_option maxHeartbeats 8000000
open Go.RowKit
theorem eA {s:ByteArray} {a:Nat}:(s.extract a s.size).size≤s.size:=by rw [ByteArray.size_extract];omega
theorem BF (t:ByteArray) (M:Nat) (most:Int) (n k:Nat) (w:World) (ht:t.size≤maxLen) (h0 : -9223372036854775808≤most) (h1:most≤9223372036854775807) (hM:w.cell? ⟨M,0,none⟩=some (.int .i64 most)) (hi:intL t.data.toList most=(n,k,0)) :
 Calls Tryz.prog 212 #[.string t,.pointer (some ⟨M,0,none⟩)] w fun e w'=>e=.returned (.tuple #[.int .i64 (n:Int),.int .i64 (k:Int),.nilIface])∧Below w.heap.size w w':=by
 go_enter Tryz.func212,Tryz.ntmps212
 go_wp2_with fail
 refine (jA t most w ht h0 h1 n k hi).mono ?_;rintro r w' ⟨rfl,rfl⟩;go_wp2;go_ret3;exact ⟨rfl,Below.refl _ _⟩
theorem BE (t:ByteArray) (M:Nat) (most:Int) (x:Nat) (w:World) (ht:t.size≤maxLen) (h0 : -9223372036854775808≤most) (h1:most≤9223372036854775807) (hM:w.cell? ⟨M,0,none⟩=some (.int .i64 most)) (hi:intL t.data.toList most=(0,0,x)) (hx:x≠0) :
 Calls Tryz.prog 212 #[.string t,.pointer (some ⟨M,0,none⟩)] w fun e w'=>e=.returned (.tuple #[.int .i64 0,.int .i64 0,.iface 68 (.int .i64 (x:Int))])∧Below w.heap.size w w':=by
 go_enter Tryz.func212,Tryz.ntmps212
 go_wp2_with fail
 refine (jz t most w ht h0 h1 x hi hx).mono ?_;rintro r w' ⟨rfl,rfl⟩;go_wp2;go_ret3;exact ⟨rfl,Below.refl _ _⟩
theorem se (t:ByteArray) (w:World) (ht:t.size≤maxLen) :
 Calls Tryz.prog 213 #[.string t] w fun e w'=>e=.returned (.tuple #[.int .i64 ((ar t.data.toList).1:Nat),.int .i64 ((ar t.data.toList).2.1:Nat),errV (ar t.data.toList).2.2])∧Below w.heap.size w w':=by
 unfold maxLen at ht;by_cases h0:0<t.size
 ·have hne : (t.toList == []) = false := by
   have h:=jV h0;rw [bne] at h
   simpa using h
  obtain ⟨c, hc⟩ : ∃ c, t[0]'h0 = c := ⟨_, rfl⟩;have hl:ar t.data.toList=if c.toNat<1∨4<c.toNat then (0,0,1) else (c.toNat,1,0):=by
   have h1:t.data.toList=c::t.data.toList.drop 1:=by
    have h2:0<t.data.toList.length:=by rw [←aj];exact h0
    have h3:=List.drop_eq_getElem_cons h2;rw [List.drop_zero] at h3;have h4 : t.data.toList[0]'h2 = c := hc;rw [h4] at h3;exact h3
   rw [h1,j7]
  have HL:=hid hl;have d1:(0:Int)<(t.size:Int):=by omega
  clear hl;by_cases h1:c.toNat<1
  ·have HR:Hid (ar t.data.toList=(0,0,1)):=hid (by rw [HL.out,if_pos (.inl h1)]);have d2:(c.toNat:Int)<1:=by omega
   go_enter Tryz.func213,Tryz.ntmps213
   go_wp2;go_ret3;rw [HR.out];exact ⟨rfl,Below.refl _ _⟩
  ·by_cases h4:4<c.toNat
   ·have HR:Hid (ar t.data.toList=(0,0,1)):=hid (by rw [HL.out,if_pos (.inr h4)]);have d2:1≤(c.toNat:Int):=by omega
    have d3:4<(c.toNat:Int):=by omega
    go_enter Tryz.func213,Tryz.ntmps213
    go_wp2;go_ret3;rw [HR.out];exact ⟨rfl,Below.refl _ _⟩
   ·have HR:Hid (ar t.data.toList=(c.toNat,1,0)):=hid (by rw [HL.out,if_neg (by omega)]);have d2:1≤(c.toNat:Int):=by omega
    have d3:(c.toNat:Int)≤4:=by omega
    go_enter Tryz.func213,Tryz.ntmps213
    go_wp2;go_ret3;rw [HR.out];exact ⟨rfl,Below.refl _ _⟩
 ·obtain rfl:=iJ h0;go_enter Tryz.func213,Tryz.ntmps213
  go_wp2;go_ret3;exact ⟨rfl,Below.refl _ _⟩
theorem Aw (t:ByteArray) (n k:Nat) (w:World) (ht:t.size≤maxLen) (hi:ar t.data.toList=(n,k,0)) :
 Calls Tryz.prog 213 #[.string t] w fun e w'=>e=.returned (.tuple #[.int .i64 (n:Int),.int .i64 (k:Int),.nilIface])∧Below w.heap.size w w' :=
 (se t w ht).mono fun e w' ⟨h1,h2⟩=>⟨by rw [h1,hi];rfl,h2⟩
theorem Av (t:ByteArray) (x:Nat) (w:World) (ht:t.size≤maxLen) (hi:ar t.data.toList=(0,0,x)) (hx:x≠0) :
 Calls Tryz.prog 213 #[.string t] w fun e w'=>e=.returned (.tuple #[.int .i64 0,.int .i64 0,.iface 68 (.int .i64 (x:Int))])∧Below w.heap.size w w' :=
 (se t w ht).mono fun e w' ⟨h1,h2⟩=>⟨by rw [h1,hi];simp only;rw [dS hx];rfl,h2⟩
theorem EK (s:ByteArray) (t:List UInt8) (k:Nat) (w:World) (hs:s.size≤1000000) (hi:getS s.data.toList=(t,k,0)) :
 Calls Tryz.prog 197 #[.string s] w fun e w'=>e=.returned (.tuple #[.string ⟨t.toArray⟩,.int .i64 (k:Int),.nilIface])∧Below w.heap.size w w' :=
 (lO s w (by omega)).mono fun e w' ⟨h1,h2⟩=>⟨by rw [h1,hi];rfl,h2⟩
theorem EJ (s:ByteArray) (x:Nat) (w:World) (hs:s.size≤1000000) (hi:getS s.data.toList=([],0,x)) (hx:x≠0) :
 Calls Tryz.prog 197 #[.string s] w fun e w'=>e=.returned (.tuple #[.string ⟨#[]⟩,.int .i64 0,.iface 68 (.int .i64 (x:Int))])∧Below w.heap.size w w' :=
 (lO s w (by omega)).mono fun e w' ⟨h1,h2⟩=>⟨by rw [h1,hi];unfold dL;simp only;rw [dS hx];rfl,h2⟩
theorem za (s:ByteArray) (l:List Ent) (k:Nat) (w:World) (hs:s.size≤1000000) (hg:errT w) (hi:ay s.data.toList=(0,k,l)) :
 Calls Tryz.prog 187 #[.string s] w fun e w'=>∃ ad cc,e=.returned (.tuple #[.slice ad l.length cc,.int .i64 (k:Int),.nilIface])∧ag w' w.heap.size (.slice ad l.length cc) l∧Below w.heap.size w w' :=
 (vB s w hs hg).mono fun e w' ⟨v,h1,h2,h3⟩=>by
  rw [hi] at h1 h2;obtain ⟨ad,cc,rfl,_⟩:=h2.is.form;exact ⟨ad,cc,h1,h2,h3⟩
theorem z8 (s:ByteArray) (x:Nat) (w:World) (hs:s.size≤1000000) (hg:errT w) (hi:ay s.data.toList=(x,0,[])) (hx:x≠0) :
 Calls Tryz.prog 187 #[.string s] w fun e w'=>∃ ad cc,e=.returned (.tuple #[.slice ad 0 cc,.int .i64 0,.iface 68 (.int .i64 (x:Int))])∧ag w' w.heap.size (.slice ad 0 cc) []∧Below w.heap.size w w' :=
 (vB s w hs hg).mono fun e w' ⟨v,h1,h2,h3⟩=>by
  rw [hi] at h1 h2;simp only at h1
  rw [eZ hx] at h1;obtain ⟨ad,cc,rfl,_⟩:=h2.is.form;exact ⟨ad,cc,h1,h2,h3⟩
theorem CF {w1:World} {B R:Nat} {v x:Value} {l:List Ent} (h:ag w1 B v l) (hR:R<B):ag (w1.setCell ⟨R,1,none⟩ x) B v l:=by
 refine World.ownsRow.kept h (row:=some R) ⟨rfl,rfl,rfl,by simp,fun k hk hne=>?_⟩ (.inr (fun e=>?_))
 ·have hk2:R≠k:=fun e=>hne (by rw [e])
  simp only [World.setCell,Array.getElem?_modify,if_neg hk2]
 ·have:=(h.lt R e).1;omega
-- gen
theorem zK (R:Nat) (s:ByteArray) (a n k:Nat) (M:Nat) (most:Int) (w:World) (h:Rd w R s a) (hg:errT w) (hs:s.size≤1000000) (ha:a≤s.size) (h0 : -9223372036854775808≤most) (h1:most≤9223372036854775807) (hM:w.cell? ⟨M,0,none⟩=some (.int .i64 most)) (hgv:intL (s.data.toList.drop a) most=(n,k,0)) (hk:k≤1000000) :
 Calls Tryz.prog 211 #[.pointer (some ⟨R,0,none⟩),.func (.func 212) #[] #[.pointer (some ⟨M,0,none⟩)]] w fun e w'=>e=.returned (.int .i64 (n:Int))∧Rd w' R s (a+k)∧w.grownBy w' (some R):=by
 have H:=hid h;have HG0:=hid hg;obtain ⟨c0,c1,z1,hR⟩:=h.cells;have HES:(s.extract a s.size).data.toList=s.data.toList.drop a:=cZ s a;have HSZ:Hid ((s.extract a s.size).size≤1000000):=hid (Nat.le_trans eA hs);have HM:Hid ((s.extract a s.size).size≤maxLen):=hid (by have:=HSZ.out;unfold maxLen;omega);have HGL:Hid (intL (s.extract a s.size).data.toList most=(n,k,0)):=hid (show intL (s.extract a s.size).data.toList most=(n,k,0) by rw [HES,hgv]);have HMC:Hid (w.drew.cell? ⟨M,0,none⟩=some (.int .i64 most)):=hid hM;have H0:Hid (-9223372036854775808≤most):=hid h0;have H1_:Hid (most≤9223372036854775807):=hid h1;have d3:(0:Int)≤(a:Int):=by omega
 have d4:(a:Int)≤(s.size:Int):=by omega
 have kw:IntKind.i64.wrap ((a:Int)+(k:Int))=((a+k:Nat):Int):=by rw [show ((a+k:Nat):Int)=(a:Int)+(k:Int) by simp];exact IntWalk.i64_in _ (by omega)
 have HB0:Hid (Below w.heap.size w w.drew):=hid (Below.refl _ _).drew;have HZ:Hid (R<w.heap.size):=hid hR;clear h hg hgv HES h0 h1 hM;go_enter Tryz.func211,Tryz.ntmps211
 go_wp2;go_region_held3 (fun w'=>w'.cell? ⟨R,0,none⟩=some (.string s)∧w'.cell? ⟨R,1,none⟩=some (.int .i64 (a:Int))) (first | exact ⟨c0,c1⟩ | exact ⟨k0,k1⟩ | fail) (first
  | (go_at_call 212;((with_reducible refine (BF (s.extract a s.size) M most n k w.drew HM.out H0.out H1_.out HMC.out HGL.out).mono ?_);rintro r w1 ⟨rfl,hb1⟩;have HB1:Hid (Below w.heap.size w w1):=hid (cd hb1);obtain ⟨k0,k1,_,_⟩:=(H.out.below HB1.out).cells;clear hb1))
  | fail)
 clear c0 c1;have H1:=hid (H.out.below HB1.out);obtain ⟨_,k1',z1',_⟩:=H1.out.cells;go_wp2_with fail
 refine (ft R w1).mono ?_;rintro r w' ⟨rfl,rfl⟩;go_wp2;go_ret;exact ⟨rfl,H1.out.moved,grownR HB1.out _⟩
theorem zJ (R:Nat) (s:ByteArray) (a x k:Nat) (M:Nat) (most:Int) (w:World) (h:Rd w R s a) (hg:errT w) (hs:s.size≤1000000) (ha:a≤s.size) (h0 : -9223372036854775808≤most) (h1:most≤9223372036854775807) (hM:w.cell? ⟨M,0,none⟩=some (.int .i64 most)) (hgv:intL (s.data.toList.drop a) most=(0,k,x)) (hk0:k=0) (hx:x≠0) :
 Calls Tryz.prog 211 #[.pointer (some ⟨R,0,none⟩),.func (.func 212) #[] #[.pointer (some ⟨M,0,none⟩)]] w fun e w'=>eh (x,(a:Int)) e w'∧w.grownBy w' (some R):=by
 have H:=hid h;have HG0:=hid hg;obtain ⟨c0,c1,z1,hR⟩:=h.cells;have HES:(s.extract a s.size).data.toList=s.data.toList.drop a:=cZ s a;have HSZ:Hid ((s.extract a s.size).size≤1000000):=hid (Nat.le_trans eA hs);have HM:Hid ((s.extract a s.size).size≤maxLen):=hid (by have:=HSZ.out;unfold maxLen;omega);subst hk0;have HGL:Hid (intL (s.extract a s.size).data.toList most=(0,0,x)):=hid (show intL (s.extract a s.size).data.toList most=(0,0,x) by rw [HES,hgv]);have HMC:Hid (w.drew.cell? ⟨M,0,none⟩=some (.int .i64 most)):=hid hM;have H0:Hid (-9223372036854775808≤most):=hid h0;have H1_:Hid (most≤9223372036854775807):=hid h1;have d3:(0:Int)≤(a:Int):=by omega
 have d4:(a:Int)≤(s.size:Int):=by omega
 have HB0:Hid (Below w.heap.size w w.drew):=hid (Below.refl _ _).drew;have HZ:Hid (R<w.heap.size):=hid hR;clear h hg hgv HES h0 h1 hM;go_enter Tryz.func211,Tryz.ntmps211
 go_wp2;go_region_held3 (fun w'=>w'.cell? ⟨R,0,none⟩=some (.string s)∧w'.cell? ⟨R,1,none⟩=some (.int .i64 (a:Int))) (first | exact ⟨c0,c1⟩ | exact ⟨k0,k1⟩ | fail) (first
  | (go_at_call 212;((with_reducible refine (BE (s.extract a s.size) M most x w.drew HM.out H0.out H1_.out HMC.out HGL.out hx).mono ?_);rintro r w1 ⟨rfl,hb1⟩;have HB1:Hid (Below w.heap.size w w1):=hid (cd hb1);obtain ⟨k0,k1,_,_⟩:=(H.out.below HB1.out).cells;clear hb1))
  | fail)
 clear c0 c1;have H1:=hid (H.out.below HB1.out);go_wp2_with fail
 refine (fs R s a _ x w1 H1.out (HG0.out.below HB1.out) (.inl rfl) hx).mono ?_;rintro r w2 ⟨⟨t,u,rfl,hne,ha⟩,hb2⟩;have HB2:Hid (Below w.heap.size w w2):=HB1.out.trans (hb2.mono HB1.out.size);exact And.intro rfl ⟨⟨t,u,rfl,hne,ha⟩,fC HB2.out⟩
theorem zI (R:Nat) (s:ByteArray) (a n k:Nat)  (w:World) (h:Rd w R s a) (hg:errT w) (hs:s.size≤1000000) (ha:a≤s.size) (hgv:ar (s.data.toList.drop a)=(n,k,0)) (hk:k≤1000000) :
 Calls Tryz.prog 211 #[.pointer (some ⟨R,0,none⟩),.func (.func 213) #[] #[]] w fun e w'=>e=.returned (.int .i64 (n:Int))∧Rd w' R s (a+k)∧w.grownBy w' (some R):=by
 have H:=hid h;have HG0:=hid hg;obtain ⟨c0,c1,z1,hR⟩:=h.cells;have HES:(s.extract a s.size).data.toList=s.data.toList.drop a:=cZ s a;have HSZ:Hid ((s.extract a s.size).size≤1000000):=hid (Nat.le_trans eA hs);have HM:Hid ((s.extract a s.size).size≤maxLen):=hid (by have:=HSZ.out;unfold maxLen;omega);have HGL:Hid (ar (s.extract a s.size).data.toList=(n,k,0)):=hid (show ar (s.extract a s.size).data.toList=(n,k,0) by rw [HES,hgv]);have d3:(0:Int)≤(a:Int):=by omega
 have d4:(a:Int)≤(s.size:Int):=by omega
 have kw:IntKind.i64.wrap ((a:Int)+(k:Int))=((a+k:Nat):Int):=by rw [show ((a+k:Nat):Int)=(a:Int)+(k:Int) by simp];exact IntWalk.i64_in _ (by omega)
 have HB0:Hid (Below w.heap.size w w.drew):=hid (Below.refl _ _).drew;have HZ:Hid (R<w.heap.size):=hid hR;clear h hg hgv HES;go_enter Tryz.func211,Tryz.ntmps211
 go_wp2;go_region_held3 (fun w'=>w'.cell? ⟨R,0,none⟩=some (.string s)∧w'.cell? ⟨R,1,none⟩=some (.int .i64 (a:Int))) (first | exact ⟨c0,c1⟩ | exact ⟨k0,k1⟩ | fail) (first
  | (go_at_call 213;((with_reducible refine (Aw (s.extract a s.size) n k w.drew HM.out HGL.out).mono ?_);rintro r w1 ⟨rfl,hb1⟩;have HB1:Hid (Below w.heap.size w w1):=hid (cd hb1);obtain ⟨k0,k1,_,_⟩:=(H.out.below HB1.out).cells;clear hb1))
  | fail)
 clear c0 c1;have H1:=hid (H.out.below HB1.out);obtain ⟨_,k1',z1',_⟩:=H1.out.cells;go_wp2_with fail
 refine (ft R w1).mono ?_;rintro r w' ⟨rfl,rfl⟩;go_wp2;go_ret;exact ⟨rfl,H1.out.moved,grownR HB1.out _⟩
theorem zH (R:Nat) (s:ByteArray) (a x k:Nat)  (w:World) (h:Rd w R s a) (hg:errT w) (hs:s.size≤1000000) (ha:a≤s.size) (hgv:ar (s.data.toList.drop a)=(0,k,x)) (hk0:k=0) (hx:x≠0) :
 Calls Tryz.prog 211 #[.pointer (some ⟨R,0,none⟩),.func (.func 213) #[] #[]] w fun e w'=>eh (x,(a:Int)) e w'∧w.grownBy w' (some R):=by
 have H:=hid h;have HG0:=hid hg;obtain ⟨c0,c1,z1,hR⟩:=h.cells;have HES:(s.extract a s.size).data.toList=s.data.toList.drop a:=cZ s a;have HSZ:Hid ((s.extract a s.size).size≤1000000):=hid (Nat.le_trans eA hs);have HM:Hid ((s.extract a s.size).size≤maxLen):=hid (by have:=HSZ.out;unfold maxLen;omega);subst hk0;have HGL:Hid (ar (s.extract a s.size).data.toList=(0,0,x)):=hid (show ar (s.extract a s.size).data.toList=(0,0,x) by rw [HES,hgv]);have d3:(0:Int)≤(a:Int):=by omega
 have d4:(a:Int)≤(s.size:Int):=by omega
 have HB0:Hid (Below w.heap.size w w.drew):=hid (Below.refl _ _).drew;have HZ:Hid (R<w.heap.size):=hid hR;clear h hg hgv HES;go_enter Tryz.func211,Tryz.ntmps211
 go_wp2;go_region_held3 (fun w'=>w'.cell? ⟨R,0,none⟩=some (.string s)∧w'.cell? ⟨R,1,none⟩=some (.int .i64 (a:Int))) (first | exact ⟨c0,c1⟩ | exact ⟨k0,k1⟩ | fail) (first
  | (go_at_call 213;((with_reducible refine (Av (s.extract a s.size) x w.drew HM.out HGL.out hx).mono ?_);rintro r w1 ⟨rfl,hb1⟩;have HB1:Hid (Below w.heap.size w w1):=hid (cd hb1);obtain ⟨k0,k1,_,_⟩:=(H.out.below HB1.out).cells;clear hb1))
  | fail)
 clear c0 c1;have H1:=hid (H.out.below HB1.out);go_wp2_with fail
 refine (fs R s a _ x w1 H1.out (HG0.out.below HB1.out) (.inl rfl) hx).mono ?_;rintro r w2 ⟨⟨t,u,rfl,hne,ha⟩,hb2⟩;have HB2:Hid (Below w.heap.size w w2):=HB1.out.trans (hb2.mono HB1.out.size);exact And.intro rfl ⟨⟨t,u,rfl,hne,ha⟩,fC HB2.out⟩
theorem zM (R:Nat) (s:ByteArray) (a n k:Nat) (t:List UInt8) (w:World) (h:Rd w R s a) (hg:errT w) (hs:s.size≤1000000) (ha:a≤s.size) (hgv:getS (s.data.toList.drop a)=(t,k,0)) (hk:k≤1000000) (_:n=0) :
 Calls Tryz.prog 210 #[.pointer (some ⟨R,0,none⟩),.func (.func 197) #[] #[]] w fun e w'=>e=.returned (.string ⟨t.toArray⟩)∧Rd w' R s (a+k)∧w.grownBy w' (some R):=by
 have H:=hid h;have HG0:=hid hg;obtain ⟨c0,c1,z1,hR⟩:=h.cells;have HES:(s.extract a s.size).data.toList=s.data.toList.drop a:=cZ s a;have HSZ:Hid ((s.extract a s.size).size≤1000000):=hid (Nat.le_trans eA hs);have HM:Hid ((s.extract a s.size).size≤maxLen):=hid (by have:=HSZ.out;unfold maxLen;omega);have HGL:Hid (getS (s.extract a s.size).data.toList=(t,k,0)):=hid (show getS (s.extract a s.size).data.toList=(t,k,0) by rw [HES,hgv]);have d3:(0:Int)≤(a:Int):=by omega
 have d4:(a:Int)≤(s.size:Int):=by omega
 have kw:IntKind.i64.wrap ((a:Int)+(k:Int))=((a+k:Nat):Int):=by rw [show ((a+k:Nat):Int)=(a:Int)+(k:Int) by simp];exact IntWalk.i64_in _ (by omega)
 have HB0:Hid (Below w.heap.size w w.drew):=hid (Below.refl _ _).drew;have HZ:Hid (R<w.heap.size):=hid hR;clear h hg hgv HES;go_enter Tryz.func210,Tryz.ntmps210
 go_wp2;go_region_held3 (fun w'=>w'.cell? ⟨R,0,none⟩=some (.string s)∧w'.cell? ⟨R,1,none⟩=some (.int .i64 (a:Int))) (first | exact ⟨c0,c1⟩ | exact ⟨k0,k1⟩ | fail) (first
  | (go_at_call 197;((with_reducible refine (EK (s.extract a s.size) t k w.drew HSZ.out HGL.out).mono ?_);rintro r w1 ⟨rfl,hb1⟩;have HB1:Hid (Below w.heap.size w w1):=hid (cd hb1);obtain ⟨k0,k1,_,_⟩:=(H.out.below HB1.out).cells;clear hb1))
  | fail)
 clear c0 c1;have H1:=hid (H.out.below HB1.out);obtain ⟨_,k1',z1',_⟩:=H1.out.cells;go_wp2_with fail
 refine (ft R w1).mono ?_;rintro r w' ⟨rfl,rfl⟩;go_wp2;go_ret;exact ⟨rfl,H1.out.moved,grownR HB1.out _⟩
theorem zL (R:Nat) (s:ByteArray) (a x k:Nat) (t:List UInt8) (w:World) (h:Rd w R s a) (hg:errT w) (hs:s.size≤1000000) (ha:a≤s.size) (hgv:getS (s.data.toList.drop a)=([],k,x)) (hk0:k=0) (hx:x≠0) (_:t=[]) :
 Calls Tryz.prog 210 #[.pointer (some ⟨R,0,none⟩),.func (.func 197) #[] #[]] w fun e w'=>eh (x,(a:Int)) e w'∧w.grownBy w' (some R):=by
 have H:=hid h;have HG0:=hid hg;obtain ⟨c0,c1,z1,hR⟩:=h.cells;have HES:(s.extract a s.size).data.toList=s.data.toList.drop a:=cZ s a;have HSZ:Hid ((s.extract a s.size).size≤1000000):=hid (Nat.le_trans eA hs);have HM:Hid ((s.extract a s.size).size≤maxLen):=hid (by have:=HSZ.out;unfold maxLen;omega);subst hk0;have HGL:Hid (getS (s.extract a s.size).data.toList=([],0,x)):=hid (show getS (s.extract a s.size).data.toList=([],0,x) by rw [HES,hgv]);have d3:(0:Int)≤(a:Int):=by omega
 have d4:(a:Int)≤(s.size:Int):=by omega
 have HB0:Hid (Below w.heap.size w w.drew):=hid (Below.refl _ _).drew;have HZ:Hid (R<w.heap.size):=hid hR;clear h hg hgv HES;go_enter Tryz.func210,Tryz.ntmps210
 go_wp2;go_region_held3 (fun w'=>w'.cell? ⟨R,0,none⟩=some (.string s)∧w'.cell? ⟨R,1,none⟩=some (.int .i64 (a:Int))) (first | exact ⟨c0,c1⟩ | exact ⟨k0,k1⟩ | fail) (first
  | (go_at_call 197;((with_reducible refine (EJ (s.extract a s.size) x w.drew HSZ.out HGL.out hx).mono ?_);rintro r w1 ⟨rfl,hb1⟩;have HB1:Hid (Below w.heap.size w w1):=hid (cd hb1);obtain ⟨k0,k1,_,_⟩:=(H.out.below HB1.out).cells;clear hb1))
  | fail)
 clear c0 c1;have H1:=hid (H.out.below HB1.out);go_wp2_with fail
 refine (fs R s a _ x w1 H1.out (HG0.out.below HB1.out) (.inl rfl) hx).mono ?_;rintro r w2 ⟨⟨t,u,rfl,hne,ha⟩,hb2⟩;have HB2:Hid (Below w.heap.size w w2):=HB1.out.trans (hb2.mono HB1.out.size);exact And.intro rfl ⟨⟨t,u,rfl,hne,ha⟩,fC HB2.out⟩
theorem nz (R:Nat) (s:ByteArray) (a n k:Nat) (l:List Ent) (w:World) (h:Rd w R s a) (hg:errT w) (hs:s.size≤1000000) (ha:a≤s.size) (hgv:ay (s.data.toList.drop a)=(0,k,l)) (hk:k≤1000000) (_:n=0) :
 Calls Tryz.prog 186 #[.pointer (some ⟨R,0,none⟩),.func (.func 187) #[] #[]] w fun e w'=>∃ v,e=.returned v∧ag w' w.heap.size v l∧Rd w' R s (a+k)∧w.grownBy w' (some R):=by
 have H:=hid h;have HG0:=hid hg;obtain ⟨c0,c1,z1,hR⟩:=h.cells;have HES:(s.extract a s.size).data.toList=s.data.toList.drop a:=cZ s a;have HSZ:Hid ((s.extract a s.size).size≤1000000):=hid (Nat.le_trans eA hs);have HM:Hid ((s.extract a s.size).size≤maxLen):=hid (by have:=HSZ.out;unfold maxLen;omega);have HGL:Hid (ay (s.extract a s.size).data.toList=(0,k,l)):=hid (show ay (s.extract a s.size).data.toList=(0,k,l) by rw [HES,hgv]);have HGD:Hid (errT w.drew):=hid hg;have d3:(0:Int)≤(a:Int):=by omega
 have d4:(a:Int)≤(s.size:Int):=by omega
 have kw:IntKind.i64.wrap ((a:Int)+(k:Int))=((a+k:Nat):Int):=by rw [show ((a+k:Nat):Int)=(a:Int)+(k:Int) by simp];exact IntWalk.i64_in _ (by omega)
 have HB0:Hid (Below w.heap.size w w.drew):=hid (Below.refl _ _).drew;have HZ:Hid (R<w.heap.size):=hid hR;clear h hg hgv HES;go_enter Tryz.func186,Tryz.ntmps186
 go_wp2;go_region_held3 (fun w'=>w'.cell? ⟨R,0,none⟩=some (.string s)∧w'.cell? ⟨R,1,none⟩=some (.int .i64 (a:Int))) (first | exact ⟨c0,c1⟩ | exact ⟨k0,k1⟩ | fail) (first
  | (go_at_call 187;((with_reducible refine (za (s.extract a s.size) l k w.drew HSZ.out HGD.out HGL.out).mono ?_);rintro r w1 ⟨ad,cc,rfl,hown,hb1⟩;have HB1:Hid (Below w.heap.size w w1):=hid (cd hb1);obtain ⟨k0,k1,_,_⟩:=(H.out.below HB1.out).cells;have HO:=hid hown;clear hown;clear hb1))
  | fail)
 clear c0 c1;have H1:=hid (H.out.below HB1.out);obtain ⟨_,k1',z1',_⟩:=H1.out.cells;go_wp2_with fail
 refine (ft R w1).mono ?_;rintro r w' ⟨rfl,rfl⟩;go_wp2;go_ret;exact ⟨_,rfl,CF HO.out HZ.out,H1.out.moved,grownR HB1.out _⟩
theorem rI (R:Nat) (s:ByteArray) (a x k:Nat) (l:List Ent) (w:World) (h:Rd w R s a) (hg:errT w) (hs:s.size≤1000000) (ha:a≤s.size) (hgv:ay (s.data.toList.drop a)=(x,k,[])) (hk0:k=0) (hx:x≠0) (_:l=[]) :
 Calls Tryz.prog 186 #[.pointer (some ⟨R,0,none⟩),.func (.func 187) #[] #[]] w fun e w'=>eh (x,(a:Int)) e w'∧w.grownBy w' (some R):=by
 have H:=hid h;have HG0:=hid hg;obtain ⟨c0,c1,z1,hR⟩:=h.cells;have HES:(s.extract a s.size).data.toList=s.data.toList.drop a:=cZ s a;have HSZ:Hid ((s.extract a s.size).size≤1000000):=hid (Nat.le_trans eA hs);have HM:Hid ((s.extract a s.size).size≤maxLen):=hid (by have:=HSZ.out;unfold maxLen;omega);subst hk0;have HGL:Hid (ay (s.extract a s.size).data.toList=(x,0,[])):=hid (show ay (s.extract a s.size).data.toList=(x,0,[]) by rw [HES,hgv]);have HGD:Hid (errT w.drew):=hid hg;have d3:(0:Int)≤(a:Int):=by omega
 have d4:(a:Int)≤(s.size:Int):=by omega
 have HB0:Hid (Below w.heap.size w w.drew):=hid (Below.refl _ _).drew;have HZ:Hid (R<w.heap.size):=hid hR;clear h hg hgv HES;go_enter Tryz.func186,Tryz.ntmps186
 go_wp2;go_region_held3 (fun w'=>w'.cell? ⟨R,0,none⟩=some (.string s)∧w'.cell? ⟨R,1,none⟩=some (.int .i64 (a:Int))) (first | exact ⟨c0,c1⟩ | exact ⟨k0,k1⟩ | fail) (first
  | (go_at_call 187;((with_reducible refine (z8 (s.extract a s.size) x w.drew HSZ.out HGD.out HGL.out hx).mono ?_);rintro r w1 ⟨ad,cc,rfl,hown,hb1⟩;have HB1:Hid (Below w.heap.size w w1):=hid (cd hb1);obtain ⟨k0,k1,_,_⟩:=(H.out.below HB1.out).cells;have HO:=hid hown;clear hown;clear hb1))
  | fail)
 clear c0 c1;have H1:=hid (H.out.below HB1.out);go_wp2_with fail
 refine (fs R s a _ x w1 H1.out (HG0.out.below HB1.out) (.inl rfl) hx).mono ?_;rintro r w2 ⟨⟨t,u,rfl,hne,ha⟩,hb2⟩;have HB2:Hid (Below w.heap.size w w2):=HB1.out.trans (hb2.mono HB1.out.size);exact And.intro rfl ⟨⟨t,u,rfl,hne,ha⟩,fC HB2.out⟩
