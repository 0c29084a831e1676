package sample

// Programs returns source programs whose class M has a main method that ends.
func Programs() []string {
	return []string{arithmetic, control, objects, exceptions, initializers, monitors, arrays, interfaces, wildcards}
}

const arithmetic = `class M extends lang::Object {
  static void i ( int a ) { lang::Console . printInt ( a ) ; }
  static void l ( long a ) { lang::Console . printLong ( a ) ; }
  public static void main ( ) {
    int a = 7 ; int b = 0 - 3 ; long c = 5000000000L ; long d = long ( b ) ;
    { M . i ( a + b ) ; M . i ( a - b ) ; M . i ( a * b ) ; M . i ( a / b ) ; M . i ( a % b ) ; M . i ( - a ) ; M . i ( a << 3 ) ; M . i ( b >> 1 ) ; M . i ( b >>> 28 ) ; M . i ( a & 3 ) ; M . i ( a | 8 ) ; M . i ( a ^ 2 ) ; M . i ( 2147483647 + 1 ) ; M . i ( 300 ) ; M . i ( 128 ) ; M . i ( 127 ) ; }
    { M . l ( c + d ) ; M . l ( c - d ) ; M . l ( c * c ) ; M . l ( c / d ) ; M . l ( c % d ) ; M . l ( - c ) ; M . i ( int ( c ) ) ; M . l ( long ( a ) ) ; M . l ( 9223372036854775807L + 1L ) ; M . l ( 0L ) ; }
    { M . i ( a < b ) ; M . i ( a <= 7 ) ; M . i ( a > b ) ; M . i ( a >= 8 ) ; M . i ( a == 7 ) ; M . i ( a != 7 ) ; M . i ( c < d ) ; M . i ( c >= d ) ; M . i ( c == c ) ; M . i ( c != c ) ; M . i ( d <= c ) ; M . i ( c > d ) ; }
    { M . i ( ! a ) ; M . i ( ! 0 ) ; M . i ( a && b ) ; M . i ( a && 0 ) ; M . i ( 0 || b ) ; M . i ( 0 || 0 ) ; M . i ( a < b || ! ( b < 0 && a == 7 ) ) ; M . i ( ( a > 1 ) + ( b < 1 ) ) ; M . i ( ! ( a > 1 ) ) ; M . i ( 0 && 1 / 0 ) ; M . i ( 1 || 1 / 0 ) ; }
    { if ( ! ( a == 7 && b == 1 ) ) { M . i ( 1 ) ; } if ( a == 7 || 1 / 0 ) { M . i ( 2 ) ; } else { M . i ( 3 ) ; } if ( null == null ) { M . i ( 4 ) ; } }
    { M . i ( a / ( b + 3 ) ) ; }
  } }`

const control = `class M extends lang::Object {
  static int fib ( int n ) { if ( n < 2 ) { return n ; } return M . fib ( n - 1 ) + M . fib ( n - 2 ) ; }
  static int sign ( int n ) { if ( n < 0 ) { return 0 - 1 ; } else { if ( n > 0 ) { return 1 ; } else { return 0 ; } } }
  static int loop ( int n ) { int s = 0 ; while ( n ) { if ( n % 3 == 0 ) { s = s + n ; } else { } n = n - 1 ; if ( s > 100 ) { return s ; } } return s ; }
  static long first ( int n ) { while ( 1 ) { if ( n * n > 50 ) { return long ( n ) ; } n = n + 1 ; } return 0L ; }
  public static void main ( ) {
    lang::Console . printInt ( M . fib ( 9 ) ) ; lang::Console . printInt ( M . sign ( 5 ) + M . sign ( 0 - 7 ) * 10 + M . sign ( 0 ) ) ; lang::Console . printInt ( M . loop ( 12 ) ) ; lang::Console . printInt ( M . loop ( 90 ) ) ; lang::Console . printLong ( M . first ( 0 ) ) ;
    int i = 0 ; { int j = 1 ; i = i + j ; { int k = j ; j = k + 1 ; } i = i + j ; } { long j = 3L ; lang::Console . printLong ( j ) ; } lang::Console . printInt ( i ) ;
    while ( i < 6 ) { int sq = i * i ; if ( sq > 20 ) { lang::Console . printInt ( sq ) ; } i = i + 1 ; } while ( 0 ) { } if ( 1 ) { } else { return ; } lang::Console . printString ( "end\n\"" ) ; return ;
  } }`

const objects = `class P extends lang::Object { int x ; long y ; P next ; private int hidden ;
  new ( int a ) { this . x = a ; this . hidden = a * 2 ; }
  new ( int a , P n ) { super ( ) ; this . x = a ; this . next = n ; return ; }
  int get ( ) { return this . x ; } int twice ( ) { return this . get ( ) * 2 ; } private int secret ( ) { return this . hidden ; } int reveal ( P other ) { return other . secret ( ) + this . secret ( ) ; } P self ( ) { return this ; } }
class Q extends P { static int made ; new ( int a ) { super ( a + 1 ) ; Q . made = Q . made + 1 ; } int get ( ) { return super . get ( ) + 100 ; } private int secret ( ) { return 0 - 1 ; } int own ( ) { return this . secret ( ) ; } }
class R extends Q { new ( ) { super ( 5 ) ; } int get ( ) { return super . get ( ) * 2 ; } }
class S extends lang::Object { int v ; lang::String s ; }
class M extends lang::Object {
  static int sum ( P p ) { int s = 0 ; while ( p != null ) { s = s + p . x ; p = p . next ; } return s ; }
  public static void main ( ) {
    P p = new P ( 1 , new P ( 2 , new P ( 3 ) ) ) ; lang::Console . printInt ( M . sum ( p ) ) ; P q = new Q ( 10 ) ; lang::Console . printInt ( q . twice ( ) ) ; lang::Console . printInt ( new R ( ) . twice ( ) ) ; lang::Console . printInt ( q . reveal ( new P ( 4 ) ) ) ; Q qq = q as Q ; lang::Console . printInt ( qq . own ( ) ) ; lang::Console . printInt ( Q . made ) ; lang::Console . printInt ( R . made ) ;
    { S s = new S ( ) ; lang::Console . printInt ( s . v ) ; if ( s . s == null ) { s . s = "abc" ; } lang::Console . printString ( s . s ) ; lang::Console . printInt ( s . s . length ( ) + s . s . at ( 1 ) ) ; lang::Console . printInt ( s . s == "abc" ) ; lang::Console . printInt ( p == p . self ( ) ) ; lang::Console . printInt ( q is Q ) ; lang::Console . printInt ( p is Q ) ; lang::Console . printInt ( null is P ) ; q . y = 7L ; lang::Console . printLong ( q . y + p . y ) ; }
    P last = null ; last = q ; lang::Object o = last ; lang::Console . printInt ( o == q ) ; o = "x" ; lang::Console . printInt ( o is lang::String ) ; new lang::Thread ( ) . run ( ) ; lang::WeakReference w = new lang::WeakReference ( p ) ; lang::Console . printInt ( w . referent == p ) ; Q bad = p as Q ; lang::Console . printInt ( 1 ) ;
  } }`

const exceptions = `class E extends lang::Throwable { int code ; new ( int c ) { this . code = c ; } } class F extends E { new ( ) { super ( 7 ) ; } }
class M extends lang::Object {
  static int g ( int n ) { if ( n == 0 ) { throw new E ( 1 ) ; } if ( n == 1 ) { throw new F ( ) ; } if ( n == 2 ) { return 1 / 0 ; } if ( n == 3 ) { E o = null ; o . code = 1 ; } if ( n == 4 ) { int [ ] a = new int [ 2 ] ; a [ 2 ] = 1 ; } if ( n == 5 ) { int [ ] a = new int [ 0 - 1 ] ; } if ( n == 6 ) { lang::Object o = "s" ; M m = o as M ; } if ( n == 7 ) { lang::Object [ ] a = new E [ 1 ] ; a [ 0 ] = "s" ; } if ( n == 8 ) { throw null ; } if ( n == 9 ) { return "a" . at ( 5 ) ; } if ( n == 10 ) { int [ ] a = new int [ 257 ] ; } if ( n == 11 ) { lang::Console . printString ( null ) ; } return n ; }
  static int f ( int n ) { try { try { return M . g ( n ) ; } catch ( F e ) { return e . code ; } } catch ( E e ) { throw new F ( ) ; } }
  static void name ( lang::Throwable t ) { if ( t is lang::ArithmeticException ) { lang::Console . printString ( "arith" ) ; } if ( t is lang::NullPointerException ) { lang::Console . printString ( "null" ) ; } if ( t is lang::IndexOutOfBoundsException ) { lang::Console . printString ( "index" ) ; } if ( t is lang::ArraySizeException ) { lang::Console . printString ( "size" ) ; } if ( t is lang::ClassCastException ) { lang::Console . printString ( "cast" ) ; } if ( t is lang::ArrayStoreException ) { lang::Console . printString ( "store" ) ; } if ( t is E ) { lang::Console . printInt ( ( t as E ) . code ) ; } }
  public static void main ( ) { int n = 0 ; while ( n < 14 ) { try { lang::Console . printInt ( M . f ( n ) ) ; } catch ( lang::Throwable t ) { M . name ( t ) ; } n = n + 1 ; } M . f ( 0 ) ; lang::Console . printInt ( 99 ) ; } }`

const initializers = `class A extends lang::Object { static int x ; static { lang::Console . printString ( "A" ) ; A . x = B . y + 1 ; } } class B extends lang::Object { static int y ; static { lang::Console . printString ( "B" ) ; B . y = A . x + 10 ; } static void touch ( ) { lang::Console . printString ( "touch" ) ; } }
class C extends B { static int z ; static { lang::Console . printString ( "C" ) ; C . z = 1 ; } new ( int a ) { lang::Console . printInt ( a ) ; } } class Bad extends lang::Object { static int v ; static { lang::Console . printString ( "Bad" ) ; Bad . v = 1 / 0 ; } } class Worse extends Bad { static int w ; static { lang::Console . printString ( "never" ) ; } } class Err extends lang::Object { static int v ; static { if ( 1 ) { throw new lang::Error ( ) ; } } }
class M extends lang::Object { static int count ; static { M . count = 5 ; lang::Console . printString ( "M" ) ; }
  static int next ( ) { M . count = M . count + 1 ; return M . count ; }
  static void show ( int k ) { try { if ( k == 0 ) { lang::Console . printInt ( Bad . v ) ; } if ( k == 1 ) { Worse . w = 3 ; } if ( k == 2 ) { lang::Console . printInt ( Err . v ) ; } if ( k == 3 ) { new Worse ( ) ; } } catch ( lang::InitializerError e ) { lang::Console . printString ( "init" ) ; } if ( k == 9 ) { B . touch ( ) ; } }
  public static void main ( ) { try { lang::Console . printInt ( M . next ( ) ) ; } catch ( lang::Throwable t ) { lang::Console . printString ( "caught" ) ; }
    C [ ] none = new C [ 1 ] ; lang::Object o = none [ 0 ] as C ; new C ( M . next ( ) ) ; B . touch ( ) ; C . touch ( ) ; lang::Console . printInt ( A . x * 100 + B . y ) ; C . z = M . next ( ) ; lang::Console . printInt ( C . y ) ;
    try { M . show ( 1 ) ; } catch ( lang::LinkageError e ) { lang::Console . printString ( "link" ) ; } try { M . show ( 0 ) ; } catch ( lang::LinkageError e ) { lang::Console . printString ( "link0" ) ; } try { M . show ( 3 ) ; } catch ( lang::Error e ) { lang::Console . printString ( "link3" ) ; } try { M . show ( 2 ) ; } catch ( lang::Error e ) { lang::Console . printString ( "error" ) ; } M . show ( 2 ) ;
  } }`

const monitors = `class L extends lang::Object { int n ; sync int up ( int by ) { this . n = this . n + by ; if ( this . n > 10 ) { return 0 - 1 ; } return this . n ; } sync void fail ( ) { throw new lang::Error ( ) ; } }
class M extends lang::Object {
  static int find ( L a , L b , int k ) { sync ( a ) { int t = 1 ; sync ( b ) { if ( k == 0 ) { return a . up ( 1 ) ; } try { if ( k == 1 ) { return 1 / ( k - 1 ) ; } } catch ( lang::ArithmeticException e ) { sync ( a ) { if ( k == 1 ) { return 55 ; } } } if ( k == 2 ) { throw new lang::Error ( ) ; } t = t + k ; } sync ( a ) { } return t * 10 ; } }
  static void quiet ( L a , int k ) { sync ( a ) { if ( k ) { return ; } lang::Console . printInt ( 77 ) ; } lang::Console . printInt ( 78 ) ; }
  static L pick ( L a , L b , int k ) { sync ( a ) { if ( k ) { return a ; } return b ; } }
  public static void main ( ) { L a = new L ( ) ; L b = new L ( ) ; int k = 0 ; while ( k < 5 ) { try { lang::Console . printInt ( M . find ( a , b , k ) ) ; } catch ( lang::Error e ) { lang::Console . printString ( "E" ) ; } k = k + 1 ; } lang::Console . printInt ( a . up ( 20 ) ) ; M . quiet ( a , 0 ) ; M . quiet ( a , 1 ) ; lang::Console . printInt ( M . pick ( a , b , 1 ) == a ) ; lang::Console . printInt ( M . pick ( a , b , 0 ) == a ) ; try { a . fail ( ) ; } catch ( lang::Error e ) { sync ( e ) { lang::Console . printInt ( 1 ) ; } } sync ( null as L ) { lang::Console . printInt ( 2 ) ; } } }`

const arrays = `class A extends lang::Object { } class B extends A { }
class M extends lang::Object {
  static int sum ( int [ ] a ) { int s = 0 ; int i = 0 ; while ( i < len ( a ) ) { s = s + a [ i ] ; i = i + 1 ; } return s ; }
  public static void main ( ) { int [ ] a = new int [ 5 ] ; int i = 0 ; while ( i < 5 ) { a [ i ] = i * i ; i = i + 1 ; } lang::Console . printInt ( M . sum ( a ) ) ; long [ ] l = new long [ 2 ] ; l [ 1 ] = 3L ; lang::Console . printLong ( l [ 0 ] + l [ 1 ] ) ; int [ ] [ ] g = new int [ ] [ 3 ] ; lang::Console . printInt ( g [ 0 ] == null ) ; g [ 1 ] = a ; g [ 1 ] [ 2 ] = 50 ; lang::Console . printInt ( a [ 2 ] ) ; lang::Console . printInt ( len ( g ) + len ( g [ 1 ] ) ) ; { A [ ] x = new B [ 2 ] ; x [ 0 ] = new B ( ) ; lang::Console . printInt ( x is B [ ] ) ; lang::Console . printInt ( x is lang::Object [ ] ) ; lang::Object o = x ; B [ ] y = o as B [ ] ; lang::Console . printInt ( y [ 0 ] is A ) ; lang::Object [ ] oo = g ; lang::Console . printInt ( oo [ 1 ] == a ) ; lang::Console . printInt ( o is int [ ] ) ; lang::String [ ] s = new lang::String [ 1 ] ; s [ 0 ] = "q" ; lang::Console . printString ( s [ 0 ] ) ; try { a [ 9 ] = 1 / 0 ; } catch ( lang::ArithmeticException e ) { lang::Console . printInt ( 3 ) ; } A [ ] none = null ; try { none [ 0 - 1 ] = null ; } catch ( lang::NullPointerException e ) { lang::Console . printInt ( 4 ) ; } if ( 0 ) { x = new A [ 1 ] ; } lang::Console . printInt ( len ( new A [ 256 ] ) ) ; x [ 1 ] = new A ( ) ; lang::Console . printInt ( 5 ) ; } } }`

const interfaces = `interface Shape { public abstract int area ( ) ; public int twice ( ) { return this . area ( ) * 2 ; } public int name ( ) { return 1 ; } } interface Named extends Shape { public int name ( ) { return 2 ; } } interface Other { public void other ( int a ) { lang::Console . printInt ( a ) ; } }
abstract class Base extends lang::Object implements Shape , Other { int w ; new ( int w ) { this . w = w ; } abstract int extra ( ) ; public int area ( ) { return this . w * this . w + this . extra ( ) ; } } class Square extends Base { new ( int w ) { super ( w ) ; } int extra ( ) { return 0 ; } } class Odd extends Base implements Named { new ( ) { super ( 3 ) ; } int extra ( ) { return 1 ; } public int twice ( ) { return super . twice ( ) + 1000 ; } }
class Dot extends lang::Object implements Named { public int area ( ) { return 0 ; } }
class M extends lang::Object {
  static Shape pick ( int k ) { if ( k == 0 ) { return new Square ( 4 ) ; } if ( k == 1 ) { return new Odd ( ) ; } return new Dot ( ) ; }
  public static void main ( ) { int k = 0 ; Shape [ ] all = new Shape [ 3 ] ; while ( k < 3 ) { Shape s = M . pick ( k ) ; all [ k ] = s ; lang::Console . printInt ( s . area ( ) ) ; lang::Console . printInt ( s . twice ( ) ) ; lang::Console . printInt ( s . name ( ) ) ; if ( s is Other ) { Other o = s as Other ; o . other ( k + 500 ) ; } if ( s is Named ) { lang::Console . printInt ( ( s as Named ) . name ( ) + 600 ) ; } k = k + 1 ; } Shape m = all [ 0 ] ; if ( k ) { m = all [ 2 ] ; } else { m = new Square ( 1 ) ; } lang::Console . printInt ( m . area ( ) ) ; lang::Object x = all ; if ( k == 3 ) { x = new Dot ( ) ; } else { x = new int [ 1 ] ; } Other bad = x as Other ; bad . other ( 1 ) ; } }`

const wildcards = `class M extends lang::Object { static int n ; static int t ( int a ) { M . n = M . n * 10 + a ; return a ; }
  static int order ( int a , int b , int c ) { return a * 100 + b * 10 + c ; } static int [ ] arr ( int a ) { M . t ( a ) ; return new int [ 4 ] ; } M self ( int a ) { M . t ( a ) ; return this ; } int f ; int g ( int a , int b ) { return a + b ; }
  public static void main ( ) { lang::Console . printInt ( M . order ( M . t ( 1 ) , M . t ( 2 ) , M . t ( 3 ) ) ) ; M . arr ( 4 ) [ M . t ( 1 ) ] = M . t ( 5 ) ; M m = new M ( ) ; m . self ( 6 ) . f = M . t ( 7 ) ; lang::Console . printInt ( m . self ( 8 ) . g ( M . t ( 9 ) , m . f && M . t ( 0 ) || M . t ( 2 ) ) ) ; lang::Console . printInt ( M . n ) ; M . n = M . t ( 3 ) - M . t ( 4 ) - M . t ( 1 ) ; lang::Console . printInt ( M . n ) ; try { try { throw new lang::Error ( ) ; } catch ( lang::ArithmeticException e ) { lang::Console . printInt ( 1 ) ; } } catch ( lang::Error e ) { lang::Console . printInt ( 2 ) ; try { } catch ( lang::Error f ) { lang::Console . printInt ( 9 ) ; } } lang::Throwable x = new lang::Error ( ) ; throw x ; } }`
